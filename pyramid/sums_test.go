package pyramid_test

import (
	"math"
	"slices"
	"testing"

	"hushhouse/api"
	"hushhouse/pyramid"
)

// beyond are numbers that no node may be told to be.
var beyond = []int{api.MaxGuess + 1, -api.MaxGuess - 1, 1 << 17, -1 << 17, 1 << 32, 1 << 62, math.MaxInt, math.MinInt, math.MinInt + 1}

func holdSums(t *testing.T, ways, high int, low, want []int, werr api.Errno) {
	t.Helper()
	if got, err := pyramid.Sums(ways, high, low); !slices.Equal(got, want) || err != werr {
		t.Errorf("Sums(%d, %d, %v) is %v, %d, not %v, %d", ways, high, low, got, err, want, werr)
	}
}

// slowSums brings each of the lowest numbers up, node by node.
func slowSums(nodes []node, low []int) []int {
	out := make([]int, len(nodes))
	first := len(nodes) - len(low)
	for i, x := range low {
		for n := first + i; n >= 0; n = nodes[n].above {
			out[n] += x
		}
	}
	return out
}

func TestY2Examples(t *testing.T) {
	holdSums(t, 2, 0, []int{7}, []int{7}, api.OK)
	holdSums(t, 16, 0, []int{-7}, []int{-7}, api.OK)
	holdSums(t, 2, 1, []int{3, 4}, []int{7, 3, 4}, api.OK)
	holdSums(t, 2, 2, []int{1, 2, 3, 4}, []int{10, 3, 7, 1, 2, 3, 4}, api.OK)
	holdSums(t, 3, 1, []int{1, -2, 3}, []int{2, 1, -2, 3}, api.OK)
	holdSums(t, 2, 3, []int{1, 10, 100, 1000, 2, 20, 200, 2000}, []int{3333, 1111, 2222, 11, 1100, 22, 2200, 1, 10, 100, 1000, 2, 20, 200, 2000}, api.OK)
	holdSums(t, 3, 2, []int{1, 2, 3, 10, 20, 30, 100, 200, 300}, []int{666, 6, 60, 600, 1, 2, 3, 10, 20, 30, 100, 200, 300}, api.OK)
}

// TestY2Sweep holds all pyramids that may be against those laid node by node.
func TestY2Sweep(t *testing.T) {
	for _, p := range plans() {
		nodes := grown(p.ways, p.high)
		many := ofLevel(nodes, p.high)
		for _, low := range [][]int{
			all(many, 0), all(many, 1), all(many, api.MaxGuess), all(many, -api.MaxGuess),
			numbers(1, many, 3), numbers(2, many, 1000), numbers(3, many, api.MaxGuess),
		} {
			holdSums(t, p.ways, p.high, low, slowSums(nodes, low), api.OK)
		}
	}
}

// TestY2OneAlone: of a lowest node that alone is not 0 those above it tell, and no others.
func TestY2OneAlone(t *testing.T) {
	for _, p := range []plan{{2, 0}, {2, 4}, {3, 3}, {5, 2}, {16, 1}} {
		nodes := grown(p.ways, p.high)
		many := ofLevel(nodes, p.high)
		for i := range many {
			low := all(many, 0)
			low[i] = -5
			holdSums(t, p.ways, p.high, low, slowSums(nodes, low), api.OK)
		}
	}
}

// TestY2Fit: just one number for each of the lowest nodes, whatever the numbers are.
func TestY2Fit(t *testing.T) {
	for _, p := range plans() {
		nodes := grown(p.ways, p.high)
		many := ofLevel(nodes, p.high)
		for _, other := range []int{0, 1, many - 1, many + 1, 2 * many, many * p.ways, many / p.ways, len(nodes), len(nodes) - 1} {
			if other == many {
				continue
			}
			for _, number := range []int{0, api.MaxGuess, api.MaxGuess + 1, math.MinInt} {
				holdSums(t, p.ways, p.high, all(other, number), nil, api.ErrFit)
			}
		}
		holdSums(t, p.ways, p.high, all(many+3, 1)[:many], slowSums(nodes, all(many, 1)), api.OK)
		holdSums(t, p.ways, p.high, all(many, 1)[:many-1], nil, api.ErrFit) // what lies in the spare room is not there
	}
}

// TestY2Range: one number beyond the bounds, at each place.
func TestY2Range(t *testing.T) {
	for _, p := range []plan{{2, 0}, {2, 1}, {2, 4}, {3, 3}, {16, 1}, {10, 2}} {
		nodes := grown(p.ways, p.high)
		many := ofLevel(nodes, p.high)
		for i := range many {
			for _, number := range beyond {
				low := all(many, 1)
				low[i] = number
				holdSums(t, p.ways, p.high, low, nil, api.ErrRange)
			}
			for _, number := range []int{api.MaxGuess, -api.MaxGuess} {
				low := all(many, 1)
				low[i] = number
				holdSums(t, p.ways, p.high, low, slowSums(nodes, low), api.OK)
			}
		}
	}
}
