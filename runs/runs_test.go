package runs_test

import (
	"strings"
	"testing"

	"hushhouse/runs"
)

func TestRuns(t *testing.T) {
	long := strings.Repeat("z", runs.MaxName)
	for _, c := range []struct {
		s               string
		letters, digits int
		name            bool
	}{
		{"", 0, 0, false}, {"a", 1, 0, true}, {"z", 1, 0, true}, {"_", 1, 0, true}, {"0", 0, 1, false}, {"9", 0, 1, false},
		{"`", 0, 0, false}, {"{", 0, 0, false}, {"A", 0, 0, false}, {"Z", 0, 0, false}, {"/", 0, 0, false}, {":", 0, 0, false}, {"^", 0, 0, false},
		{"a_z", 3, 0, true}, {"a1", 1, 0, false}, {"01a", 0, 2, false}, {"ab c", 2, 0, false}, {" ab", 0, 0, false}, {"007", 0, 3, false},
		{"\xe4", 0, 0, false}, {"a\xc3\xa4", 1, 0, false}, {"1\x00", 0, 1, false}, {"\u0661", 0, 0, false},
		{long, runs.MaxName, 0, true}, {long + "z", runs.MaxName + 1, 0, false}, {long[1:] + "Z", runs.MaxName - 1, 0, false},
	} {
		if got := runs.Letters(c.s); got != c.letters {
			t.Errorf("Letters(%q) is %d, not %d", c.s, got, c.letters)
		}
		if got := runs.Digits(c.s); got != c.digits {
			t.Errorf("Digits(%q) is %d, not %d", c.s, got, c.digits)
		}
		if got := runs.Name(c.s); got != c.name {
			t.Errorf("Name(%q) is %v, not %v", c.s, got, c.name)
		}
	}
}

// TestEveryByte holds each byte against the lists of those that count.
func TestEveryByte(t *testing.T) {
	for i := range 256 {
		b := string([]byte{byte(i)})
		if got := runs.Letters(b) == 1; got != strings.Contains("abcdefghijklmnopqrstuvwxyz_", b) {
			t.Errorf("a letter is %q: %v", b, got)
		}
		if got := runs.Digits(b) == 1; got != strings.Contains("0123456789", b) {
			t.Errorf("a digit is %q: %v", b, got)
		}
	}
}
