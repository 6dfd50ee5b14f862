package wire_test

import (
	"slices"
	"strings"
	"testing"

	"hushhouse/api"
	"hushhouse/wire"
)

// some are messages of both kinds, in bytes.
func some() []string {
	var out []string
	for _, m := range []api.Message{
		{Kind: 1}, {Kind: 2}, reply(1), reply(-1, 1<<62, -300),
		{Kind: 1, Session: "session", Number: 300, Purse: "people", Text: "count where a = 1", R: f(200, 100), Low: -1000, High: 1 << 40},
		{Kind: 2, Session: "session", Number: 1 << 50, Err: api.ErrBudget, Lost: f(1000, 3)},
		{Kind: 2, Session: strings.Repeat("s", 200), Number: -1, Values: slices.Repeat([]int{200}, 200), Lost: f(1, -1<<63)},
	} {
		b, _ := wire.Pack(m)
		out = append(out, b)
	}
	return out
}

// TestPartsOfMessages: none is the beginning of another one, or more than one.
func TestPartsOfMessages(t *testing.T) {
	for _, b := range some() {
		for n := range len(b) {
			holdBad(t, b[:n], api.ErrForm)
			holdBad(t, b[n+1:], api.ErrForm)
		}
		for _, behind := range append(some(), "\x00", "\x01", "\x80", "x") {
			holdBad(t, b+behind, api.ErrForm)
			holdBad(t, "\x00"+b, api.ErrForm)
		}
	}
}

func TestKindsOfBytes(t *testing.T) {
	for _, b := range some() {
		for kind := range 256 {
			if kind != api.MessageAsk && kind != api.MessageReply {
				holdBad(t, string([]byte{byte(kind)})+b[1:], api.ErrForm)
			}
		}
	}
	// an ask has two bytes more than a reply without values
	holdBad(t, "\x01\x00\x00\x00\x00\x00\x00", api.ErrForm)
	holdBad(t, "\x02\x00\x00\x00\x00\x00\x00\x00\x00", api.ErrForm)
	holdBad(t, "\x81\x00\x00\x00\x00\x00\x00\x00", api.ErrForm)
}

// wrongCounts are such as no count is written.
func wrongCounts() []string {
	out := []string{
		"\x80\x00", "\x81\x00", "\x82\x00", "\xff\x00", "\x80\x80\x00", "\xff\xff\x00", "\x81\x80\x80\x00", "\x80\x81\x00",
		"\xff\xff\xff\xff\xff\xff\xff\xff\xff\x02", "\x80\x80\x80\x80\x80\x80\x80\x80\x80\x02", "\x80\x80\x80\x80\x80\x80\x80\x80\x80\x03", "\x80\x80\x80\x80\x80\x80\x80\x80\x80\x7f",
		"\x80\x80\x80\x80\x80\x80\x80\x80\x80\x80\x01", "\x81\x80\x80\x80\x80\x80\x80\x80\x80\x81\x01", "\xff\xff\xff\xff\xff\xff\xff\xff\xff\xff\x01", "\xff\xff\xff\xff\xff\xff\xff\xff\xff\x81\x00",
		"\x80\x80\x80\x80\x80\x80\x80\x80\x80\x81\x00",
	}
	for n := 1; n < 12; n++ {
		out = append(out, strings.Repeat("\x80", n)+"\x00", strings.Repeat("\xff", n)+"\x00")
	}
	return out
}

// TestWrongCounts: at each place where a count of 0 stands in a message that is right.
func TestWrongCounts(t *testing.T) {
	for _, b := range []string{"\x01\x00\x00\x00\x00\x00\x00\x00\x00", "\x02\x00\x00\x00\x00\x00\x00"} {
		for at := 1; at < len(b); at++ {
			for _, wrong := range wrongCounts() {
				holdBad(t, b[:at]+wrong+b[at+1:], api.ErrForm)
				holdBad(t, b[:at]+wrong, api.ErrForm)
				holdBad(t, b[:at]+wrong+strings.Repeat("\x00", 200)+b[at+1:], api.ErrForm)
			}
		}
	}
	for _, wrong := range wrongCounts() {
		holdBad(t, "\x02\x00\x00\x00\x01"+wrong+"\x00\x00", api.ErrForm)
		holdBad(t, "\x02\x00\x00\x00\x02\x00"+wrong+"\x00\x00", api.ErrForm)
	}
}

// TestCountsOfMoreThanThereIs: a text, or values, that the bytes behind it do not have, and may be more than there can be.
func TestCountsOfMoreThanThereIs(t *testing.T) {
	for _, count := range []string{
		"\x09", "\x7f", "\x80\x01", "\xff\xff\xff\xff\x07", "\x80\x80\x80\x80\x08", "\xff\xff\xff\xff\xff\xff\xff\xff\x7f", "\x80\x80\x80\x80\x80\x80\x80\x80\x80\x01", "\xff\xff\xff\xff\xff\xff\xff\xff\xff\x01",
	} {
		for _, ahead := range []string{"\x01", "\x01\x00\x00", "\x01\x00\x00\x00", "\x02", "\x02\x00\x00\x00"} {
			for n := range 9 {
				holdBad(t, ahead+count+strings.Repeat("\x00", n), api.ErrForm)
			}
		}
	}
	// as many values as there are bytes, and nothing behind them
	for n := range 100 {
		holdBad(t, "\x02\x00\x00\x00"+string([]byte{byte(n)})+strings.Repeat("\x00", n), api.ErrForm)
		holdBad(t, "\x02\x00\x00\x00"+string([]byte{byte(n)})+strings.Repeat("\x00", n+1), api.ErrForm)
		hold(t, reply(make([]int, n)...), "\x02\x00\x00\x00"+string([]byte{byte(n)})+strings.Repeat("\x00", n+2))
		holdBad(t, "\x02\x00\x00\x00"+string([]byte{byte(n)})+strings.Repeat("\x00", n+3), api.ErrForm)
	}
}

func TestShortBytes(t *testing.T) {
	holdBad(t, "", api.ErrForm)
	for x := range 256 {
		holdBad(t, string([]byte{byte(x)}), api.ErrForm)
		for y := range 256 {
			holdBad(t, string([]byte{byte(x), byte(y)}), api.ErrForm)
		}
	}
}
