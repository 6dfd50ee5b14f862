package wire_test

import (
	"slices"
	"strings"
	"testing"

	"hushhouse/api"
	"hushhouse/wire"
)

func holdFrame(t *testing.T, b, want string, err api.Errno) {
	t.Helper()
	if got, e := wire.Frame(b); got != want || e != err {
		t.Errorf("Frame of %d bytes is %x, %v, not %x, %v", len(b), short(got), e, short(want), err)
	}
}

func TestFrame(t *testing.T) {
	holdFrame(t, "abc", "\x00\x00\x00\x03abc", api.OK)
	holdFrame(t, "\x00", "\x00\x00\x00\x01\x00", api.OK)
	holdFrame(t, "", "", api.ErrRange)
	for _, x := range []struct {
		n    int
		head string
	}{{255, "\x00\x00\x00\xff"}, {256, "\x00\x00\x01\x00"}, {258, "\x00\x00\x01\x02"}, {0xfffe, "\x00\x00\xff\xfe"}, {0xffff, "\x00\x00\xff\xff"}, {most, "\x00\x01\x00\x00"}} {
		b := strings.Repeat("b", x.n)
		holdFrame(t, b, x.head+b, api.OK)
	}
	for _, n := range []int{most + 1, 2 * most, 1 << 20, 1 << 24} {
		holdFrame(t, strings.Repeat("b", n), "", api.ErrRange)
	}
}

// fed is a crumb, and what is told of it.
type fed struct {
	b    string
	want []string
	err  api.Errno
}

func holdFed(t *testing.T, l ...fed) {
	t.Helper()
	s := wire.NewStream()
	for i, x := range l {
		if got, err := s.Feed(x.b); !slices.Equal(got, x.want) || err != x.err {
			t.Errorf("crumb %d is told as %d frames, %.40q, %v, not %d, %.40q, %v", i, len(got), got, err, len(x.want), x.want, x.err)
		}
	}
}

func crumb(b string, want ...string) fed { return fed{b, want, api.OK} }

// broken is a crumb that breaks a stream, and others that come behind it.
func broken(b string, want ...string) []fed {
	out := []fed{{b, want, api.ErrForm}}
	for _, more := range []string{"", "x", "\x00\x00\x00\x01a", b} {
		out = append(out, fed{more, nil, api.ErrState})
	}
	return out
}

func TestFeed(t *testing.T) {
	holdFed(t, crumb(""), crumb(""), crumb("\x00\x00\x00\x01a", "a"), crumb(""), crumb("\x00\x00\x00\x02bc", "bc"))
	holdFed(t, crumb("\x00"), crumb("\x00"), crumb(""), crumb("\x00"), crumb("\x02"), crumb("a"), crumb(""), crumb("b", "ab"), crumb("\x00"), crumb("\x00\x00\x01"), crumb("c", "c"))
	holdFed(t, crumb("\x00\x00\x00\x01a\x00\x00\x00\x02bc\x00\x00\x00\x03def", "a", "bc", "def"))
	holdFed(t, crumb("\x00\x00\x00\x01a\x00\x00\x00", "a"), crumb("\x02bc\x00\x00\x00\x03", "bc"), crumb("de"), crumb("f\x00\x00\x00\x01g\x00", "def", "g"))
	// the same frame again and again, and one that looks like a frame
	holdFed(t, crumb("\x00\x00\x00\x01a\x00\x00\x00\x01a", "a", "a"), crumb("\x00\x00\x00\x05\x00\x00\x00\x01a", "\x00\x00\x00\x01a"))
	holdFed(t, crumb("\x00\x00\x00\x04\x00\x00\x00\x00", "\x00\x00\x00\x00"), crumb("\x00\x00\x00\x04\xff\xff\xff\xff", "\xff\xff\xff\xff"))
}

func TestFeedOfAllBytes(t *testing.T) {
	long := strings.Repeat("abcdefgh", most/8)
	head := "\x00\x01\x00\x00"
	holdFed(t, crumb(head+long, long), crumb(head+long+head+long, long, long))
	holdFed(t, crumb(head+long[1:]), crumb("h", "bcdefgh"+long[8:]+"h"), crumb(head[:3]), crumb(head[3:]), crumb(long, long))
	holdFed(t, crumb("\x00\x00\xff\xff"+long[1:]+"\x00", long[1:]), crumb("\x00\x00\x01h", "h"))
	one := []fed{crumb(head)}
	for i := range long {
		one = append(one, crumb(long[i:i+1]))
	}
	one[most].want = []string{long}
	holdFed(t, append(one, crumb("\x00\x00\x00\x01z", "z"))...)
}

func TestWrongHeads(t *testing.T) {
	for _, head := range []string{
		"\x00\x00\x00\x00", "\x00\x01\x00\x01", "\x00\x01\x01\x00", "\x00\x01\xff\xff", "\x00\x02\x00\x00", "\x01\x00\x00\x00", "\x01\x00\x00\x01", "\x80\x00\x00\x01", "\xff\xff\xff\xff", "\x7f\xff\xff\xff", "\x03\x00\x00\x00", "\x80\x00\x00\x00",
	} {
		holdFed(t, broken(head)...)
		holdFed(t, broken(head+"abc")...)
		holdFed(t, append([]fed{crumb(head[:3])}, broken(head[3:])...)...)
		holdFed(t, append([]fed{crumb(head[:1]), crumb(head[1:2]), crumb(head[2:3])}, broken(head[3:]+"\x00\x00\x00\x01a")...)...)
		// the frames ahead of it are told, those behind it never
		holdFed(t, broken("\x00\x00\x00\x01a\x00\x00\x00\x02bc"+head+"\x00\x00\x00\x01d", "a", "bc")...)
		holdFed(t, append([]fed{crumb("\x00\x00\x00\x02a")}, broken("b"+head, "ab")...)...)
		holdFed(t, append([]fed{crumb("\x00\x00\x00\x01a"+head[:2], "a")}, broken(head[2:])...)...)
		// as long as a byte of the head is missing, it says nothing
		holdFed(t, crumb("\x00\x00\x00\x01a"+head[:3], "a"), crumb(""), crumb(""))
		// in a frame it is what it is
		holdFed(t, crumb("\x00\x00\x00\x04"+head, head))
	}
}

// TestStreamsDoNotKnowOfOneAnother: what one gets, and whether it is broken, is nothing to another.
func TestStreamsDoNotKnowOfOneAnother(t *testing.T) {
	first, second := wire.NewStream(), wire.NewStream()
	hold := func(s *wire.Stream, b string, err api.Errno, want ...string) {
		t.Helper()
		if got, e := s.Feed(b); !slices.Equal(got, want) || e != err {
			t.Errorf("%q is told as %q, %v", b, got, e)
		}
	}
	hold(first, "\x00\x00\x00\x02a", api.OK)
	hold(second, "\x00\x00", api.OK)
	hold(first, "b\x00\x00\x00", api.OK, "ab")
	hold(second, "\x00\x01c", api.OK, "c")
	hold(first, "\x00", api.ErrForm)
	hold(second, "\x00\x00\x00\x01d", api.OK, "d")
	hold(first, "", api.ErrState)
	hold(wire.NewStream(), "\x00\x00\x00\x01e", api.OK, "e")
}
