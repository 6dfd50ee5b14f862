package wire_test

import (
	"strings"
	"testing"

	"hushhouse/api"
	"hushhouse/wire"
)

const most = api.MaxFrame

// fill is a text that makes a message of so many bytes, of which but are others than the text's and its three of count.
func fill(bytes, but int) string { return strings.Repeat("x", bytes-but-3) }

// holdFull: a message of just MaxFrame bytes is packed and unpacked.
func holdFull(t *testing.T, m api.Message) {
	t.Helper()
	b, err := wire.Pack(m)
	if len(b) != most || err != api.OK {
		t.Fatalf("Pack is %d bytes, %v", len(b), err)
	}
	if got, err := wire.Unpack(b); !equal(got, m) || err != api.OK {
		t.Errorf("Unpack is %v", err)
	}
	holdBad(t, b+"\x00", api.ErrMuch)
	holdBad(t, b[:most-1], api.ErrForm)
	holdBad(t, "\x00"+b[1:], api.ErrForm)
}

func TestMessagesOfAllBytes(t *testing.T) {
	ask := api.Message{Kind: api.MessageAsk, Session: "s", Number: 300, R: f(2, 1), Low: -1, High: 64} // 1, 2, 2, then 1 (no purse), 2, 1, 2 behind the text
	ask.Text = fill(most, 11)
	holdFull(t, ask)
	ask.High = -64 // a byte less
	ask.Text += "x"
	holdFull(t, ask)
	for _, more := range []func(*api.Message){
		func(m *api.Message) { m.Session = "st" }, func(m *api.Message) { m.Number = 8192 }, func(m *api.Message) { m.Purse = "p" }, func(m *api.Message) { m.Text += "x" },
		func(m *api.Message) { m.R.Up = 64 }, func(m *api.Message) { m.R.Down = 64 }, func(m *api.Message) { m.Low = -65 }, func(m *api.Message) { m.High = 64 },
	} {
		over := ask
		more(&over)
		holdUnpacked(t, over, api.ErrMuch)
		over.Text = over.Text[1:]
		holdFull(t, over)
	}
	holdFull(t, api.Message{Kind: api.MessageAsk, Session: fill(most, 8)})
	holdFull(t, api.Message{Kind: api.MessageAsk, Purse: fill(most, 8)})
	holdFull(t, api.Message{Kind: api.MessageReply, Session: fill(most, 6)})
	holdUnpacked(t, api.Message{Kind: api.MessageAsk, Session: fill(most+1, 8)}, api.ErrMuch)
	holdUnpacked(t, api.Message{Kind: api.MessageAsk, Purse: fill(most+1, 8)}, api.ErrMuch)
	holdUnpacked(t, api.Message{Kind: api.MessageReply, Session: fill(most+1, 6)}, api.ErrMuch)

	values := make([]int, most-6-3)
	holdFull(t, reply(values...))
	holdUnpacked(t, reply(append(values, 0)...), api.ErrMuch)
	values[0] = 64
	holdUnpacked(t, reply(values...), api.ErrMuch)
	holdFull(t, reply(values[:len(values)-1]...))
	values[0] = 0
	for _, m := range []api.Message{{Session: "s"}, {Number: 64}, {Err: 64}, {Lost: f(64, 0)}, {Lost: f(0, -65)}} {
		m.Kind, m.Values = api.MessageReply, values
		holdUnpacked(t, m, api.ErrMuch)
		m.Values = values[:len(values)-1]
		holdFull(t, m)
	}
}

// TestMuchMore: what is far too much, at each place, with room again behind it or not.
func TestMuchMore(t *testing.T) {
	for _, n := range []int{most, most + 1, 2 * most, 1 << 20} {
		long := strings.Repeat("y", n)
		holdUnpacked(t, api.Message{Kind: 1, Session: long, Text: "count"}, api.ErrMuch)
		holdUnpacked(t, api.Message{Kind: 1, Purse: long, Number: 1}, api.ErrMuch)
		holdUnpacked(t, api.Message{Kind: 1, Text: long, High: 3}, api.ErrMuch)
		holdUnpacked(t, api.Message{Kind: 1, Session: long, Purse: long, Text: long}, api.ErrMuch)
		holdUnpacked(t, api.Message{Kind: 2, Session: long, Values: []int{1}}, api.ErrMuch)
		holdUnpacked(t, reply(make([]int, n)...), api.ErrMuch)
		holdBad(t, long+long, api.ErrMuch)
		holdBad(t, "\x02\x00\x00\x00\x00\x00\x00"+long, api.ErrMuch)
	}
	half := strings.Repeat("z", most/2)
	holdUnpacked(t, api.Message{Kind: 1, Session: half, Text: half}, api.ErrMuch)
	holdUnpacked(t, api.Message{Kind: 1, Purse: half, Text: half}, api.ErrMuch)
	holdBad(t, strings.Repeat("\x00", most), api.ErrForm)
	holdBad(t, strings.Repeat("\x80", most), api.ErrForm)
	holdBad(t, strings.Repeat("\x00", most+1), api.ErrMuch)
}
