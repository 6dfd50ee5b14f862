package wire_test

import (
	"runtime"
	"slices"
	"strings"
	"testing"
	"unsafe"

	"hushhouse/api"
	"hushhouse/wire"
)

func TestNothingIsWritten(t *testing.T) {
	values := append(make([]int, 0, 5), 1, 2, 3, 94, 95)
	was := slices.Clone(values)
	for _, m := range []api.Message{
		reply(values[:3]...), {Kind: 2, Values: values[:3], Text: "x"}, {Kind: 1, Values: values[:3]}, {Kind: 3, Values: values[:3]}, {Kind: 2, Values: values[:0]}, {Kind: 2, Values: values[:3], Session: strings.Repeat("x", most)},
	} {
		wire.Pack(m)
		if !slices.Equal(values, was) {
			t.Fatalf("what was handed in is changed to %v", values)
		}
	}
}

// TestAnswersAreNewMemory: the values of two answers have no entry, and no spare room, in one place.
func TestAnswersAreNewMemory(t *testing.T) {
	b, _ := wire.Pack(reply(1, 2, 3, 4, 5))
	first, _ := wire.Unpack(b)
	second, _ := wire.Unpack(b)
	clear(first.Values[:cap(first.Values)])
	third, _ := wire.Unpack(b)
	if !equal(second, reply(1, 2, 3, 4, 5)) || !equal(third, second) {
		t.Errorf("what is written over one answer is to be seen in another")
	}
	s := wire.NewStream()
	frames, _ := s.Feed("\x00\x00\x00\x01a\x00\x00\x00\x01b\x00\x00\x00\x01c\x00\x00")
	all := frames[:cap(frames)]
	for i := range all {
		all[i] = "over"
	}
	if more, _ := s.Feed("\x00\x01d\x00\x00\x00\x01e"); !slices.Equal(more, []string{"d", "e"}) {
		t.Errorf("a stream tells %q", more)
	}
}

// lies tells whether a text lies in the memory of another one.
func lies(s, in string) bool {
	from, at := uintptr(unsafe.Pointer(unsafe.StringData(in))), uintptr(unsafe.Pointer(unsafe.StringData(s)))
	return at >= from && at < from+uintptr(len(in))
}

// TestTextsAreNewMemory: no text that is told is a piece of one that was handed in, which may be long, or of another one that is told.
func TestTextsAreNewMemory(t *testing.T) {
	b, _ := wire.Pack(api.Message{Kind: 1, Session: "session", Purse: "people", Text: "count where a = 1"})
	m, _ := wire.Unpack(b)
	framed, _ := wire.Frame(b)
	two := framed + framed
	frames, _ := wire.NewStream().Feed(two)
	told := []string{m.Session, m.Purse, m.Text, framed, frames[0], frames[1]}
	for i, s := range told {
		for j, other := range append([]string{b, two}, told...) {
			if i+2 != j && lies(s, other) {
				t.Errorf("%q lies in %q", s, other)
			}
		}
	}
}

// TestStreamKeepsNoCrumb: what is left is a copy.
func TestStreamKeepsNoCrumb(t *testing.T) {
	crumb := []byte("\x00\x00\x00\x03ab")
	s := wire.NewStream()
	s.Feed(unsafe.String(&crumb[0], len(crumb)))
	for i := range crumb {
		crumb[i] = 0xff
	}
	if got, err := s.Feed("c"); !slices.Equal(got, []string{"abc"}) || err != api.OK {
		t.Errorf("the frame is %q, %v", got, err)
	}
}

// inUse is how many bytes are in use.
func inUse() int {
	runtime.GC()
	var m runtime.MemStats
	runtime.ReadMemStats(&m)
	return int(m.HeapAlloc)
}

// TestStreamsKeepLittle: behind a long crumb of whole frames, or when it is broken, a stream keeps nothing of it.
func TestStreamsKeepLittle(t *testing.T) {
	frame, _ := wire.Frame(strings.Repeat("x", 60000))
	for _, behind := range []string{"", "\x00\x00", "\x00\x00\x00\x00"} {
		long := strings.Repeat(frame, 100) + behind
		s := wire.NewStream()
		before := inUse()
		if frames, _ := s.Feed(long); len(frames) != 100 {
			t.Fatalf("%d frames", len(frames))
		}
		if kept := inUse() - before; kept > 1<<20 {
			t.Errorf("%d bytes are kept behind %q", kept, behind)
		}
		runtime.KeepAlive(s)
		runtime.KeepAlive(long)
	}
}

// TestTooMuchTakesLittle: a message that is too long is told without all of it being written.
func TestTooMuchTakesLittle(t *testing.T) {
	long, many := strings.Repeat("x", 1<<25), make([]int, 1<<23)
	for _, m := range []api.Message{{Kind: 1, Session: long}, {Kind: 1, Purse: long}, {Kind: 1, Text: long}, {Kind: 2, Session: long}, reply(many...)} {
		var before, after runtime.MemStats
		runtime.ReadMemStats(&before)
		holdUnpacked(t, m, api.ErrMuch)
		runtime.ReadMemStats(&after)
		if took := after.TotalAlloc - before.TotalAlloc; took > 1<<20 {
			t.Errorf("%d bytes are taken", took)
		}
	}
}

func TestNilAndEmptyAreTheSame(t *testing.T) {
	for _, none := range [][]int{nil, {}, make([]int, 0, 4)} {
		for _, m := range []api.Message{{Kind: 1, Session: "s", Text: "count"}, {Kind: 2, Session: "s", Err: api.ErrNone}} {
			want, _ := wire.Pack(m)
			m.Values = none
			hold(t, m, want)
		}
		holdUnpacked(t, api.Message{Kind: 3, Values: none}, api.ErrForm)
	}
}
