package whole_test

import (
	"testing"

	"hushhouse/whole"
)

func TestDivisor(t *testing.T) {
	for _, c := range []struct{ a, b, want int }{
		{0, 0, 0}, {0, 5, 5}, {5, 0, 5}, {1, 1, 1}, {6, 4, 2}, {4, 6, 2}, {7, 5, 1}, {12, 12, 12},
		{-6, 4, 2}, {6, -4, 2}, {-6, -4, 2}, {0, -5, 5}, {-5, 0, 5},
		{1 << 60, 1 << 30, 1 << 30}, {1<<60 - 1, 1 << 30, 1}, {1 << 60, 3, 1},
	} {
		if got := whole.Divisor(c.a, c.b); got != c.want {
			t.Errorf("Divisor(%d, %d) is %d, not %d", c.a, c.b, got, c.want)
		}
	}
}
