package laid_test

import (
	"slices"
	"strings"
	"testing"

	"hushhouse/laid"
)

func TestWordsAndBytes(t *testing.T) {
	for _, c := range []struct {
		bytes string
		words []int64
	}{
		{"", nil}, {"a", []int64{0x61 << 56}}, {"\x00", []int64{0}}, {"\xff", []int64{-1 << 56}}, {"\x00\x00\x00\x00\x00\x00\x00\x01", []int64{1}},
		{"abcdefg", []int64{0x6162636465666700}}, {"abcdefgh", []int64{0x6162636465666768}}, {"abcdefghi", []int64{0x6162636465666768, 0x69 << 56}},
		{strings.Repeat("\xff", 16), []int64{-1, -1}}, {strings.Repeat("\xff", 15), []int64{-1, -256}},
	} {
		if got := laid.Words(c.bytes); !slices.Equal(got, c.words) {
			t.Errorf("Words(%q) is %x, not %x", c.bytes, got, c.words)
		}
		want := c.bytes + strings.Repeat("\x00", 8*len(c.words)-len(c.bytes))
		if got := laid.Bytes(c.words); got != want {
			t.Errorf("Bytes(%x) is %q, not %q", c.words, got, want)
		}
	}
}

// disk tells what is put, one behind the other, as long as there is power.
type disk struct {
	puts []int64
	left int
}

func (d *disk) Size() int     { return 100 }
func (d *disk) Get(int) int64 { return 0 }

func (d *disk) Put(i int, w int64) bool {
	d.left--
	if d.left < 0 {
		return false
	}
	d.puts = append(d.puts, int64(i), w)
	return true
}

func TestPut(t *testing.T) {
	want := []int64{40, 0, 41, 7, 42, -8, 43, 1, 40, 1}
	for left := range 8 {
		d := &disk{left: left}
		if got := laid.Put(d, 40, []int64{laid.Whole, 7, -8, 1}); got != (left >= 5) {
			t.Errorf("with power for %d words Put is %v", left, got)
		}
		if many := 2 * min(left, 5); !slices.Equal(d.puts, want[:many]) || d.left < -1 {
			t.Errorf("with power for %d words these are put: %v", left, d.puts)
		}
	}
}
