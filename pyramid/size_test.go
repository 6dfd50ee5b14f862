package pyramid_test

import (
	"math"
	"slices"
	"testing"

	"hushhouse/api"
	"hushhouse/pyramid"
)

// node is a node of a pyramid that is laid node by node.
type node struct{ level, above int }

// grown lays all nodes of a pyramid, one behind the other; far above the limit it ends.
func grown(ways, high int) []node {
	out := []node{{above: -1}}
	for i := 0; i < len(out) && len(out) <= 2*api.MaxNodes; i++ {
		if out[i].level == high {
			continue
		}
		for range ways {
			out = append(out, node{level: out[i].level + 1, above: i})
		}
	}
	return out
}

// ofLevel is how many nodes a level has.
func ofLevel(nodes []node, level int) int {
	many := 0
	for _, n := range nodes {
		if n.level == level {
			many++
		}
	}
	return many
}

// plan is a pyramid that may be.
type plan struct{ ways, high int }

// plans are all that may be.
func plans() []plan {
	var out []plan
	for ways := 2; ways <= api.MaxWays; ways++ {
		for high := range api.MaxHigh + 1 {
			if len(grown(ways, high)) <= api.MaxNodes {
				out = append(out, plan{ways, high})
			}
		}
	}
	return out
}

// numbers are some that look as if by lot, from -most to most, the same ones of each seed.
func numbers(seed, many, most int) []int {
	x := uint64(seed)*2654435761 + 12345
	out := make([]int, many)
	for i := range out {
		x = x*6364136223846793005 + 1442695040888963407
		out[i] = int(x>>33)%(2*most+1) - most
	}
	return out
}

// all are as many numbers as asked for, each the same.
func all(many, number int) []int { return slices.Repeat([]int{number}, many) }

func holdSize(t *testing.T, ways, high, want int, werr api.Errno) {
	t.Helper()
	if got, err := pyramid.Size(ways, high); got != want || err != werr {
		t.Errorf("Size(%d, %d) is %d, %d, not %d, %d", ways, high, got, err, want, werr)
	}
}

func TestY1Examples(t *testing.T) {
	for _, x := range []struct{ ways, high, want int }{
		{2, 0, 1}, {2, 1, 3}, {2, 2, 7}, {2, 3, 15}, {2, 9, 1023}, {3, 0, 1}, {3, 1, 4}, {3, 2, 13}, {3, 5, 364},
		{4, 4, 341}, {5, 4, 781}, {9, 3, 820}, {10, 2, 111}, {16, 0, 1}, {16, 1, 17}, {16, 2, 273},
	} {
		holdSize(t, x.ways, x.high, x.want, api.OK)
	}
	for _, x := range []plan{{2, 10}, {3, 6}, {3, 10}, {4, 5}, {5, 5}, {6, 4}, {10, 3}, {16, 3}, {16, 10}} {
		holdSize(t, x.ways, x.high, 0, api.ErrMuch)
	}
	for _, x := range []plan{{1, 1}, {17, 1}, {3, 11}, {0, 0}, {1, 0}, {-2, 3}, {2, -1}, {16, 11}, {17, 10}} {
		holdSize(t, x.ways, x.high, 0, api.ErrRange)
	}
}

// TestY1AllThree: whatever list comes with a pyramid that may not be, that is told first, by all three.
func TestY1AllThree(t *testing.T) {
	edges := []int{math.MinInt, -api.MaxNodes, -2, 18, 31, 62, 63, 64, api.MaxNodes, 1 << 31, 1 << 32, 1<<32 + 2, math.MaxInt}
	ways, highs := slices.Clone(edges), slices.Clone(edges)
	for i := -1; i <= api.MaxWays+1; i++ {
		ways, highs = append(ways, i), append(highs, i)
	}
	lists := [][]int{nil, {}, {1}, {1, 2}, {1, 2, 3}, {math.MaxInt}, all(1024, 0), all(1024, api.MaxGuess+1), all(2047, 0)}
	seen := map[api.Errno]int{}
	for _, w := range ways {
		for _, h := range highs {
			want, werr := 0, api.ErrRange
			if w >= 2 && w <= api.MaxWays && h >= 0 && h <= api.MaxHigh {
				if want, werr = len(grown(w, h)), api.OK; want > api.MaxNodes {
					want, werr = 0, api.ErrMuch
				}
			}
			seen[werr]++
			holdSize(t, w, h, want, werr)
			for _, l := range lists {
				if werr != api.OK {
					holdSums(t, w, h, l, nil, werr)
					holdAgree(t, w, h, l, nil, 0, werr)
				}
			}
		}
	}
	for _, err := range []api.Errno{api.OK, api.ErrRange, api.ErrMuch} {
		if seen[err] < 40 {
			t.Errorf("too few of a kind are tried: %v", seen)
		}
	}
}
