package whole_test

import (
	"slices"
	"testing"

	"hushhouse/whole"
)

func TestDivisor(t *testing.T) {
	for _, c := range []struct{ a, b, want int }{
		{0, 0, 0}, {0, 5, 5}, {5, 0, 5}, {1, 1, 1}, {6, 4, 2}, {4, 6, 2}, {7, 5, 1}, {12, 12, 12},
		{-6, 4, 2}, {6, -4, 2}, {-6, -4, 2}, {0, -5, 5}, {-5, 0, 5},
		{1 << 60, 1 << 30, 1 << 30}, {1<<60 - 1, 1 << 30, 1}, {1 << 60, 3, 1},
	} {
		if got := whole.Divisor(c.a, c.b); got != c.want {
			t.Errorf("Divisor(%d, %d) is %d, not %d", c.a, c.b, got, c.want)
		}
	}
}

func TestLowest(t *testing.T) {
	for _, c := range []struct {
		up   []int
		down int
		want []int
		over int
	}{
		{nil, 1, nil, 1}, {nil, 6, nil, 1}, {[]int{0, 0}, 6, []int{0, 0}, 1}, {[]int{4, 6}, 2, []int{2, 3}, 1},
		{[]int{4, 6}, 3, []int{4, 6}, 3}, {[]int{-4, 6, 0}, 8, []int{-2, 3, 0}, 4}, {[]int{6, 10}, 15, []int{6, 10}, 15},
		{[]int{12, -18}, 6, []int{2, -3}, 1}, {[]int{1 << 60}, 1 << 30, []int{1 << 30}, 1},
	} {
		was := slices.Clone(c.up)
		got, over := whole.Lowest(c.up, c.down)
		if !slices.Equal(got, c.want) || over != c.over || !slices.Equal(c.up, was) {
			t.Errorf("Lowest(%v, %d) is %v, %d, not %v, %d", was, c.down, got, over, c.want, c.over)
		}
	}
}
