package wire_test

import (
	"math"
	"slices"
	"strings"
	"testing"

	"hushhouse/api"
	"hushhouse/wire"
)

func f(up, down int) api.Ratio { return api.Ratio{Up: up, Down: down} }

// reply is one with values alone.
func reply(values ...int) api.Message { return api.Message{Kind: api.MessageReply, Values: values} }

func equal(a, b api.Message) bool {
	return a.Kind == b.Kind && a.Session == b.Session && a.Number == b.Number && a.Purse == b.Purse && a.Text == b.Text && a.R == b.R &&
		a.Low == b.Low && a.High == b.High && a.Err == b.Err && slices.Equal(a.Values, b.Values) && a.Lost == b.Lost
}

// short is the beginning of bytes, for what a test tells.
func short(b string) string { return b[:min(len(b), 60)] }

// hold: a message and bytes are packed and unpacked into each other.
func hold(t *testing.T, m api.Message, b string) {
	t.Helper()
	if got, err := wire.Pack(m); got != b || err != api.OK {
		t.Errorf("Pack is %x, %v, not %x", short(got), err, short(b))
	}
	if got, err := wire.Unpack(b); !equal(got, m) || err != api.OK {
		t.Errorf("Unpack of %x is %v, %v", short(b), got, err)
	}
}

func holdUnpacked(t *testing.T, m api.Message, want api.Errno) {
	t.Helper()
	if got, err := wire.Pack(m); got != "" || err != want {
		t.Errorf("Pack of kind %d is %x, %v, not %v", m.Kind, short(got), err, want)
	}
}

func holdBad(t *testing.T, b string, want api.Errno) {
	t.Helper()
	if got, err := wire.Unpack(b); !equal(got, api.Message{}) || err != want {
		t.Errorf("Unpack of %x is %v, %v, not %v", short(b), got, err, want)
	}
}

// numbers are some with what they are in bytes: the edges of each count of bytes, either way, the least and the greatest.
func numbers() []struct {
	n int
	b string
} {
	return []struct {
		n int
		b string
	}{
		{0, "\x00"}, {-1, "\x01"}, {1, "\x02"}, {-2, "\x03"}, {2, "\x04"},
		{63, "\x7e"}, {-64, "\x7f"}, {64, "\x80\x01"}, {-65, "\x81\x01"},
		{300, "\xd8\x04"}, {-300, "\xd7\x04"},
		{8191, "\xfe\x7f"}, {-8192, "\xff\x7f"}, {8192, "\x80\x80\x01"}, {-8193, "\x81\x80\x01"},
		{1<<20 - 1, "\xfe\xff\x7f"}, {1 << 20, "\x80\x80\x80\x01"}, {-1 << 20, "\xff\xff\x7f"},
		{1<<27 - 1, "\xfe\xff\xff\x7f"}, {1 << 27, "\x80\x80\x80\x80\x01"},
		{1<<34 - 1, "\xfe\xff\xff\xff\x7f"}, {1 << 34, "\x80\x80\x80\x80\x80\x01"},
		{1<<41 - 1, "\xfe\xff\xff\xff\xff\x7f"}, {1 << 41, "\x80\x80\x80\x80\x80\x80\x01"},
		{1<<48 - 1, "\xfe\xff\xff\xff\xff\xff\x7f"}, {1 << 48, "\x80\x80\x80\x80\x80\x80\x80\x01"},
		{1<<55 - 1, "\xfe\xff\xff\xff\xff\xff\xff\x7f"}, {1 << 55, "\x80\x80\x80\x80\x80\x80\x80\x80\x01"},
		{1<<62 - 1, "\xfe\xff\xff\xff\xff\xff\xff\xff\x7f"}, {-1 << 62, "\xff\xff\xff\xff\xff\xff\xff\xff\x7f"},
		{1 << 62, "\x80\x80\x80\x80\x80\x80\x80\x80\x80\x01"}, {-1<<62 - 1, "\x81\x80\x80\x80\x80\x80\x80\x80\x80\x01"},
		{math.MaxInt, "\xfe\xff\xff\xff\xff\xff\xff\xff\xff\x01"}, {math.MinInt, "\xff\xff\xff\xff\xff\xff\xff\xff\xff\x01"},
	}
}

func TestNumbers(t *testing.T) {
	for _, x := range numbers() {
		hold(t, reply(x.n), "\x02\x00\x00\x00\x01"+x.b+"\x00\x00")
		hold(t, reply(x.n, 1, x.n), "\x02\x00\x00\x00\x03"+x.b+"\x02"+x.b+"\x00\x00")
	}
}

// TestPlaces: each number of a message, all others 0.
func TestPlaces(t *testing.T) {
	for _, x := range numbers() {
		hold(t, api.Message{Kind: 1, Number: x.n}, "\x01\x00"+x.b+"\x00\x00\x00\x00\x00\x00")
		hold(t, api.Message{Kind: 1, R: f(x.n, 0)}, "\x01\x00\x00\x00\x00"+x.b+"\x00\x00\x00")
		hold(t, api.Message{Kind: 1, R: f(0, x.n)}, "\x01\x00\x00\x00\x00\x00"+x.b+"\x00\x00")
		hold(t, api.Message{Kind: 1, Low: x.n}, "\x01\x00\x00\x00\x00\x00\x00"+x.b+"\x00")
		hold(t, api.Message{Kind: 1, High: x.n}, "\x01\x00\x00\x00\x00\x00\x00\x00"+x.b)
		hold(t, api.Message{Kind: 2, Number: x.n}, "\x02\x00"+x.b+"\x00\x00\x00\x00")
		hold(t, api.Message{Kind: 2, Err: api.Errno(x.n)}, "\x02\x00\x00"+x.b+"\x00\x00\x00")
		hold(t, api.Message{Kind: 2, Lost: f(x.n, 0)}, "\x02\x00\x00\x00\x00"+x.b+"\x00")
		hold(t, api.Message{Kind: 2, Lost: f(0, x.n)}, "\x02\x00\x00\x00\x00\x00"+x.b)
	}
}

func TestTexts(t *testing.T) {
	for _, x := range []struct{ count, s string }{
		{"\x00", ""}, {"\x01", "x"}, {"\x01", "\x00"}, {"\x02", "\xff\x80"}, {"\x05", "é\n€"[:5]},
		{"\x7f", strings.Repeat("a", 127)}, {"\x80\x01", strings.Repeat("b", 128)}, {"\x81\x01", strings.Repeat("\x81", 129)},
		{"\xff\x7f", strings.Repeat("c", 16383)}, {"\x80\x80\x01", strings.Repeat("\x00", 16384)},
	} {
		hold(t, api.Message{Kind: 1, Session: x.s}, "\x01"+x.count+x.s+"\x00\x00\x00\x00\x00\x00\x00")
		hold(t, api.Message{Kind: 1, Purse: x.s}, "\x01\x00\x00"+x.count+x.s+"\x00\x00\x00\x00\x00")
		hold(t, api.Message{Kind: 1, Text: x.s}, "\x01\x00\x00\x00"+x.count+x.s+"\x00\x00\x00\x00")
		hold(t, api.Message{Kind: 2, Session: x.s}, "\x02"+x.count+x.s+"\x00\x00\x00\x00\x00")
	}
}

func TestValues(t *testing.T) {
	for _, x := range []struct {
		n     int
		count string
	}{{0, "\x00"}, {1, "\x01"}, {127, "\x7f"}, {128, "\x80\x01"}, {16383, "\xff\x7f"}, {16384, "\x80\x80\x01"}} {
		values, b := make([]int, x.n), ""
		for i := range values {
			values[i] = -(i % 2)
			b += string([]byte{byte(i % 2)})
		}
		hold(t, reply(values...), "\x02\x00\x00\x00"+x.count+b+"\x00\x00")
	}
}

func TestMessages(t *testing.T) {
	hold(t, api.Message{Kind: api.MessageAsk}, "\x01\x00\x00\x00\x00\x00\x00\x00\x00")
	hold(t, api.Message{Kind: api.MessageReply}, "\x02\x00\x00\x00\x00\x00\x00")
	hold(t, api.Message{Kind: api.MessageAsk, Session: "ab", Number: 3, Purse: "cde", Text: "count", R: f(2, 1), Low: -1, High: 300},
		"\x01\x02ab\x06\x03cde\x05count\x04\x02\x01\xd8\x04")
	hold(t, api.Message{Kind: api.MessageReply, Session: "ab", Number: 64, Err: api.ErrNone, Values: []int{0, -1, 1, -64, 64}, Lost: f(3, 2)},
		"\x02\x02ab\x80\x01\x0c\x05\x00\x01\x02\x7f\x80\x01\x06\x04")
	// what a house wouldn't say is a message too: numbers and names are looked at elsewhere
	hold(t, api.Message{Kind: api.MessageReply, Session: "?", Number: -1, Err: -1, Values: []int{5}, Lost: f(-4, 0)}, "\x02\x01?\x01\x01\x01\x0a\x07\x00")
	hold(t, api.Message{Kind: api.MessageAsk, Session: "", Number: 0, Purse: "", Text: "(", R: f(4, 6), Low: 2, High: 1}, "\x01\x00\x00\x00\x01(\x08\x0c\x04\x02")
}

func TestKinds(t *testing.T) {
	for _, kind := range []int{0, 3, -1, 4, 256 + api.MessageAsk, 256 + api.MessageReply, -255, 1<<32 + 1, math.MinInt, math.MaxInt} {
		holdUnpacked(t, api.Message{Kind: kind}, api.ErrForm)
		holdUnpacked(t, api.Message{Kind: kind, Session: "s", Number: 1}, api.ErrForm)
		holdUnpacked(t, api.Message{Kind: kind, Text: strings.Repeat("x", api.MaxFrame)}, api.ErrForm)
	}
}

// TestOtherFields: what a message's kind does not have must not be there, wherever else the message is right, or too much.
func TestOtherFields(t *testing.T) {
	long := strings.Repeat("x", api.MaxFrame)
	for _, session := range []string{"", "s", long} {
		for _, m := range []api.Message{
			{Err: 1}, {Err: -1}, {Err: math.MinInt}, {Values: []int{0}}, {Values: []int{1, 2}}, {Lost: f(1, 0)}, {Lost: f(0, 1)}, {Lost: f(1, 1)}, {Lost: f(-1, 0)},
		} {
			m.Kind, m.Session = api.MessageAsk, session
			holdUnpacked(t, m, api.ErrForm)
			m.Purse, m.Text, m.R, m.Low, m.High = "p", "count", f(2, 1), 1, 2
			holdUnpacked(t, m, api.ErrForm)
		}
		for _, m := range []api.Message{
			{Purse: "p"}, {Text: "x"}, {Text: long}, {R: f(1, 0)}, {R: f(0, 1)}, {R: f(2, 1)}, {Low: 1}, {Low: -1}, {High: 1}, {High: math.MinInt},
		} {
			m.Kind, m.Session = api.MessageReply, session
			holdUnpacked(t, m, api.ErrForm)
			m.Err, m.Values, m.Lost = api.ErrNone, []int{1}, f(2, 1)
			holdUnpacked(t, m, api.ErrForm)
		}
	}
}
