package choice_test

import (
	"math"
	"math/rand"
	"slices"
	"testing"

	"hushhouse/api"
	"hushhouse/choice"
)

func holdMiddle(t *testing.T, counts, want []int, werr api.Errno) {
	t.Helper()
	got, err := choice.Middle(counts)
	if err != werr || !slices.Equal(got, want) {
		t.Errorf("Middle of %v is %v, %d, not %v, %d", counts, got, err, want, werr)
	}
}

func TestC5Middle(t *testing.T) {
	for _, x := range []struct{ counts, want []int }{
		{nil, nil},
		{[]int{}, nil},
		{[]int{0}, []int{0}},
		{[]int{5}, []int{0}},
		{[]int{api.MaxRows}, []int{0}},
		{[]int{0, 0, 0}, []int{0, 0, 0}},
		{[]int{1, 2, 3, 4}, []int{-8, -4, 0, -2}},
		{[]int{4, 3, 2, 1}, []int{-2, 0, -4, -8}},
		{[]int{0, 0, 9, 0}, []int{-9, -9, 0, -9}},
		{[]int{4, 0, 0, 4}, []int{0, 0, 0, 0}},
		{[]int{1, 1, 1}, []int{-1, 0, -1}},
		{[]int{3, 3}, []int{0, 0}},         // just as far apart as the count
		{[]int{3, 4}, []int{-1, 0}},        // one further
		{[]int{4, 3}, []int{0, -1}},        // one further, the other way
		{[]int{5, 2, 3}, []int{0, 0, -4}},  // the second one: just as far
		{[]int{5, 2, 2}, []int{0, -1, -5}}, // one further
		{[]int{3, 2, 5}, []int{-4, 0, 0}},  // just as far, the other way
		{[]int{2, 2, 5}, []int{-5, -1, 0}}, // one further
		{[]int{4, 0, 5}, []int{-1, -1, 0}}, // a count of 0 is scored too
		{[]int{0, 4, 0, 4, 0}, []int{-8, 0, 0, 0, -8}},
		{[]int{api.MaxRows, 0, api.MaxRows}, []int{0, 0, 0}},
		{[]int{api.MaxRows, api.MaxRows, api.MaxRows}, []int{-api.MaxRows, 0, -api.MaxRows}},
	} {
		holdMiddle(t, x.counts, x.want, api.OK)
	}
}

func TestC5Wrong(t *testing.T) {
	const rows, cells = api.MaxRows, api.MaxCells
	for _, n := range []int{-1, -2, rows + 1, math.MinInt, math.MaxInt} {
		for _, counts := range [][]int{{n}, {n, 0}, {0, n}, {1, n, 3}, {n, n}, {-n, n}, append(times(cells-1, 0), n)} {
			holdMiddle(t, counts, nil, api.ErrRange)
		}
		// A number that is beyond is told ahead of too many of them, wherever it stands.
		for _, at := range []int{0, 1, cells - 1, cells, cells + 1} {
			counts := times(cells+2, 1)
			counts[at] = n
			holdMiddle(t, counts, nil, api.ErrRange)
		}
	}
	for _, n := range []int{0, 1, rows} {
		holdMiddle(t, times(cells+1, n), nil, api.ErrMany)
		holdMiddle(t, times(3*cells, n), nil, api.ErrMany)
		if got, err := choice.Middle(times(cells, n)); err != api.OK || len(got) != cells || got[0] != min(0, n-n*(cells-1)) || got[cells/2] != 0 {
			t.Errorf("Middle of MaxCells counts is %d of them, %d", len(got), err)
		}
	}
}

// slowMiddle says what C5 says of each value alone.
func slowMiddle(counts []int) ([]int, api.Errno) {
	for _, n := range counts {
		if n < 0 || n > api.MaxRows {
			return nil, api.ErrRange
		}
	}
	if len(counts) > api.MaxCells {
		return nil, api.ErrMany
	}
	var out []int
	for v, n := range counts {
		a, b := 0, 0
		for w, m := range counts {
			if w < v {
				b += m
			}
			if w > v {
				a += m
			}
		}
		apart := a - b
		if apart < 0 {
			apart = -apart
		}
		if apart <= n {
			out = append(out, 0)
		} else {
			out = append(out, n-apart)
		}
	}
	return out, api.OK
}

func TestC5Sweep(t *testing.T) {
	r := rand.New(rand.NewSource(75))
	for range 3000 {
		counts := make([]int, r.Intn(anyOf(r, 4, 9, 60)))
		most := anyOf(r, 2, 6, 100, api.MaxRows+1)
		for i := range counts {
			counts[i] = r.Intn(most)
		}
		if len(counts) > 0 && r.Intn(20) == 0 {
			counts[r.Intn(len(counts))] = anyOf(r, -1, api.MaxRows+1, math.MinInt)
		}
		want, werr := slowMiddle(counts)
		holdMiddle(t, counts, want, werr)
	}
}

// TestC5Middles: of the rows in order, a value is scored 0 if one of the middle rows is of it, or if as many lie ahead of it as behind.
func TestC5Middles(t *testing.T) {
	r := rand.New(rand.NewSource(5))
	for range 3000 {
		counts := make([]int, 1+r.Intn(6))
		var list []int
		for v := range counts {
			counts[v] = r.Intn(4)
			list = append(list, times(counts[v], v)...)
		}
		got, _ := choice.Middle(counts)
		for v, n := range counts {
			at, _ := slices.BinarySearch(list, v)
			middle := n > 0 && (list[len(list)/2] == v || list[(len(list)-1)/2] == v) || n == 0 && 2*at == len(list)
			if (got[v] == 0) != middle {
				t.Fatalf("Middle of %v is %v", counts, got)
			}
		}
	}
}
