package desk_test

import (
	"math"
	"slices"
	"strings"
	"testing"

	"hushhouse/api"
	"hushhouse/desk"
	"hushhouse/wire"
)

// onHalf is a disk whose second half has these words; in the first one there is room for one record or so.
func onHalf(words []int64, odd bool) *disk {
	first := len(words)
	if odd && first > 0 {
		first--
	}
	return &disk{words: append(make([]int64, first), words...), left: -1}
}

// lastOf is the last reply of a session that a desk without room remembers.
func lastOf(t *testing.T, k *desk.Desk, session string) (api.Message, bool) {
	t.Helper()
	for number := 1; ; number++ {
		m, err := k.Tell(api.Message{Kind: api.MessageAsk, Session: session, Number: number}, nil)
		switch err {
		case api.OK:
			return m, true
		case api.ErrNone:
		case api.ErrMuch, api.ErrRange:
			return m, false
		default:
			t.Fatalf("Tell of %q, %d tells %d", session, number, err)
		}
	}
}

// holdRemembered opens a desk on words behind which there is no room, and holds what it remembers against a list of replies.
func holdRemembered(t *testing.T, what string, words []int64, sessions []string, want ...api.Message) {
	t.Helper()
	if len(words) >= api.MaxReply {
		t.Fatalf("%s: there is room behind the records", what)
	}
	for _, odd := range []bool{false, true} {
		d := onHalf(words, odd)
		was := slices.Clone(d.words)
		k := opened(t, d)
		for _, session := range sessions {
			var last api.Message
			for _, m := range want {
				if m.Session == session {
					last = m
				}
			}
			if got, ok := lastOf(t, k, session); ok != (last.Kind > 0) || !equal(got, last) {
				t.Errorf("%s: the last reply of %q is %v, %v, not %v", what, session, got, ok, last)
			}
		}
		if !slices.Equal(d.words, was) || d.bad {
			t.Errorf("%s: the disk was changed, or asked for a word that it doesn't have", what)
		}
	}
}

// holdCounts tries one record behind another one, and a third one behind it, which counts only if the one between does.
func holdCounts(t *testing.T, what string, record []int64, counts bool, r api.Message) {
	t.Helper()
	first, last := replied("s", 1, f(2, 1), 3), refused("z", 1, api.ErrName)
	want := []api.Message{first}
	if counts {
		want = append(want, r, last)
	}
	words := slices.Concat(replyWords(t, first), record, replyWords(t, last))
	holdRemembered(t, what, words, []string{"s", "z", "new", r.Session}, want...)
}

func TestZ1RecordsThatCount(t *testing.T) {
	for _, r := range []api.Message{
		replied("new", 1, f(2, 1), 3), replied("s", 2, f(2, 1), 3), refused("s", 2, api.ErrNone), refused("_", 1, api.ErrBudget), refused("new", 1, api.ErrPower),
		refused(strings.Repeat("y", 32), 1, api.ErrNone), replied("new", 1, f(0, 0)), replied("new", 1, f(-4, 0), math.MinInt, math.MaxInt, 0, -1),
		refused("new", 1, -1), refused("new", 1, 12), refused("new", 1, math.MaxInt), refused("new", 1, math.MinInt),
		{Kind: 2, Session: "new", Number: 1, Err: api.ErrBudget, Values: []int{5, 6}, Lost: f(7, 8)}, replied("new", 1, f(2, 1), make([]int, 100)...),
		replied("a", 1, f(0, 0)), replied("ab", 1, f(0, 0)), replied("abcdefg", 1, f(0, 0)), replied("abcdefgh", 1, f(0, 0)), replied("abcdefghi", 1, f(0, 0)), replied("abcdefghij", 1, f(0, 0)),
	} {
		holdCounts(t, "right", replyWords(t, r), true, r)
	}
}

func TestZ1Heads(t *testing.T) {
	r := replied("new", 1, f(2, 1), 3)
	for _, head := range []int64{0, 2, 3, -1, 256, 257, 1<<32 + 1, 1 << 56, math.MaxInt64, math.MinInt64, math.MinInt64 + 1} {
		record := replyWords(t, r)
		record[0] = head
		holdCounts(t, "head", record, false, r)
	}
	holdCounts(t, "nothing", make([]int64, 9), false, r)
}

// TestZ1Counts: another number of bytes than the message has; and numbers that are none of bytes.
func TestZ1Counts(t *testing.T) {
	for _, r := range []api.Message{replied("new", 1, f(2, 1), 3), replied("new", 1, f(0, 0)), replied("new", 1, f(0, 0), 1, 2, 3, 4, 5, 6), replied("newer", 1, f(0, 1), 0)} {
		size := int64(len(packed(t, r)))
		for _, count := range []int64{
			0, -1, 1, size - 1, size + 1, size + 8, size - 8, -size, size + 1<<32, size + 1<<8, size | math.MinInt64, math.MaxInt64, math.MinInt64, math.MaxInt64 - 7, math.MaxInt64 / 8, 720, 721, 1 << 31, 1 << 32, 1 << 61,
		} {
			record := replyWords(t, r)
			record[1] = count
			holdCounts(t, "count", record, false, r)
		}
	}
}

// long is a reply of so many bytes.
func long(t *testing.T, session string, bytes int) api.Message {
	t.Helper()
	values := make([]int, bytes-7-len(session)) // a byte each, and one for how many there are
	if len(values) > 127 {
		values = values[1:] // two
	}
	m := replied(session, 1, f(0, 0), values...)
	if got := len(packed(t, m)); got != bytes {
		t.Fatalf("it has %d bytes, not %d", got, bytes)
	}
	return m
}

// TestZ1Longest: MaxReply words are the most that a record has, though more would be there.
func TestZ1Longest(t *testing.T) {
	last := refused("z", 1, api.ErrName)
	for bytes := 700; bytes < 740; bytes++ {
		r := long(t, "new", bytes)
		want := []api.Message{r, last}
		if bytes > 720 {
			want = nil
		}
		holdFirst(t, slices.Concat(replyWords(t, r, last), make([]int64, 3)), want)
	}
}

// holdFirst is as holdRemembered, of a half with room for one more: a name that is not there is answered.
func holdFirst(t *testing.T, words []int64, want []api.Message) {
	t.Helper()
	k := opened(t, onHalf(words, false))
	for _, session := range []string{"new", "z"} {
		got, err := k.Tell(saying(session, 1, "?"), nil)
		at := slices.IndexFunc(want, func(m api.Message) bool { return m.Session == session })
		switch {
		case at >= 0:
			if err != api.OK || !equal(got, want[at]) {
				t.Errorf("the reply of %q is %v, %d", session, got, err)
			}
		case err != api.OK || !equal(got, refused(session, 1, api.ErrForm)):
			t.Errorf("%q is replied %v, %d", session, got, err)
		}
	}
}

// TestZ1Noughts: behind the bytes there are no others in their last word.
func TestZ1Noughts(t *testing.T) {
	for bytes := 11; bytes <= 27; bytes++ {
		r := long(t, "new", bytes)
		spare := (8 - bytes%8) % 8
		for bit := range 8 * spare {
			record := replyWords(t, r)
			record[len(record)-1] ^= 1 << bit
			holdCounts(t, "noughts", record, false, r)
		}
		holdCounts(t, "noughts", replyWords(t, r), true, r)
		apart := slices.Concat(replyWords(t, r), make([]int64, 1), replyWords(t, refused("z", 1, api.ErrName)))
		holdRemembered(t, "a word between two", apart, []string{"z", "new"}, r)
	}
}

// TestZ1Fits: a record that does not fit into the half is not read, not even its words that are there; and it ends at the half's last word.
func TestZ1Fits(t *testing.T) {
	l := []api.Message{replied("s", 1, f(2, 1), 3), refused("s", 2, api.ErrForm), long(t, "new", 40), refused("z", 1, api.ErrName)}
	all := replyWords(t, l...)
	for size := range len(all) + 1 {
		many, end := 0, 0
		for many < len(l) {
			end += len(replyWords(t, l[many]))
			if end > size {
				break
			}
			many++
		}
		holdRemembered(t, "cut", all[:size], []string{"s", "new", "z"}, l[:many]...)
	}
}

// TestZ1OtherBytes: bytes that are no reply.
func TestZ1OtherBytes(t *testing.T) {
	r := replied("new", 1, f(2, 1), 3)
	b := packed(t, r)
	for _, bad := range []string{
		"", "\x00", "\x02", "\x02\x00", b[:len(b)-1], b + "\x00", "\x00" + b, "\x03" + b[1:], "\x01" + b[1:], "\x02\x83\x00new\x02\x00\x01\x06\x04\x02", "\x02\x03new\x82\x00\x00\x01\x06\x04\x02",
		packed(t, asking("new", 1)), packed(t, api.Message{Kind: 1, Session: "new", Number: 1}), strings.Repeat("\x00", 16), strings.Repeat("\xff", 16),
	} {
		holdCounts(t, "bytes", wordsOf(bad), false, r)
	}
}

func TestZ1Sessions(t *testing.T) {
	for _, session := range []string{"", "A", "a1", "a b", " ", "a\x00", "\x00", "é", "\xff", "s.", strings.Repeat("x", 33), strings.Repeat("x", 100), "S"} {
		record := replyWords(t, replied(session, 1, f(2, 1), 3))
		holdCounts(t, session, record, false, replied("new", 1, f(2, 1), 3))
	}
}

// TestZ1Numbers: each is one more than that of the last reply of its session, whatever is replied to others between.
func TestZ1Numbers(t *testing.T) {
	for _, number := range []int{0, 2, 3, -1, math.MaxInt, math.MinInt} {
		holdCounts(t, "number", replyWords(t, refused("new", number, 3)), false, refused("new", number, 3))
	}
	for _, number := range []int{0, 1, 3, 4, -1, -2, math.MaxInt, math.MinInt} {
		r := refused("s", number, 3)
		holdRemembered(t, "number", replyWords(t, replied("s", 1, f(2, 1), 3), r, refused("z", 1, 3)), []string{"s", "z"}, replied("s", 1, f(2, 1), 3))
	}
	l := []api.Message{refused("a", 1, 1), refused("b", 1, 2), refused("a", 2, 3), refused("c", 1, 4), refused("a", 3, 5), refused("b", 2, 6), refused("c", 2, 7), refused("c", 3, 8), refused("b", 3, 9), refused("a", 4, 10)}
	for many := range len(l) + 1 {
		holdRemembered(t, "in turn", replyWords(t, l[:many]...), []string{"a", "b", "c", "d"}, l[:many]...)
		for other := range l {
			if other == many || many == len(l) {
				continue
			}
			turned := slices.Clone(l)
			turned[many], turned[other] = turned[other], turned[many]
			holdRemembered(t, "turned round", replyWords(t, turned...), []string{"a", "b", "c", "d"}, counting(turned)...)
		}
	}
}

// counting are those of a list of replies that count.
func counting(l []api.Message) []api.Message {
	for i, m := range l {
		number := 1
		for _, ahead := range l[:i] {
			if ahead.Session == m.Session {
				number = ahead.Number + 1
			}
		}
		if m.Number != number {
			return l[:i]
		}
	}
	return l
}

// slowly are the replies that lie on a half, as the document says it.
func slowly(half []int64) (out []api.Message, end int) {
	for {
		left := half[end:]
		if len(left) < 2 || left[0] != 1 || left[1] < 1 || left[1] > 8*90 || int64(len(left)-2)*8 < left[1] {
			return out, end
		}
		var bytes []byte
		for _, w := range left[2:] {
			for i := range 8 {
				bytes = append(bytes, byte(uint64(w)<<(8*i)>>56))
			}
		}
		b := string(bytes[:left[1]])
		words := wordsOf(b)
		m, err := wire.Unpack(b)
		if !slices.Equal(left[:len(words)], words) || err != api.OK || m.Kind != api.MessageReply || len(m.Session) < 1 || len(m.Session) > 32 || strings.Trim(m.Session, "abcdefghijklmnopqrstuvwxyz_") != "" {
			return out, end
		}
		if len(counting(append(slices.Clone(out), m))) == len(out) {
			return out, end
		}
		out = append(out, m)
		end += len(words)
	}
}

// TestZ1EveryBit: whichever bit is turned of three records, what is remembered is what a slow reader finds.
func TestZ1EveryBit(t *testing.T) {
	words := replyWords(t, replied("s", 1, f(2, 1), 3), replied("ab", 1, f(2, 1), 1, 0, 1, 1), refused("s", 2, 3))
	other := 0
	for word := range words {
		for bit := range 64 {
			turned := slices.Clone(words)
			turned[word] ^= int64(uint64(1) << bit)
			want, _ := slowly(turned)
			sessions := []string{"s", "ab"}
			for _, m := range want {
				sessions = append(sessions, m.Session)
			}
			if len(want) == 3 {
				other++
			}
			holdRemembered(t, "a bit", turned, sessions, want...)
		}
	}
	if other < 50 || other > len(words)*64-50 {
		t.Errorf("%d count still", other)
	}
}
