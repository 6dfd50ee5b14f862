package tree_test

import (
	"math"
	"slices"
	"testing"

	"hushhouse/api"
	"hushhouse/tree"
)

// notHigh are no heights.
var notHigh = []int{-1, api.MaxHigh + 1, -api.MaxHigh, 63, 64, math.MinInt, math.MaxInt}

func power(high int) int {
	out := 1
	for range high {
		out *= 2
	}
	return out
}

// stepsOf are the first step of a node and the one behind its last.
func stepsOf(s api.Spot) (from, to int) { return s.At * power(s.Level), (s.At + 1) * power(s.Level) }

// spots are nodes, of which each has a level and a number.
func spots(list [][2]int) []api.Spot {
	var out []api.Spot
	for _, x := range list {
		out = append(out, api.Spot{Level: x[0], At: x[1]})
	}
	return out
}

// nodes are all nodes of a tree.
func nodes(high int) []api.Spot {
	var out []api.Spot
	for level := range high + 1 {
		for at := range power(high - level) {
			out = append(out, api.Spot{Level: level, At: at})
		}
	}
	return out
}

func holdSpots(t *testing.T, what string, high, time int, got []api.Spot, err api.Errno, want []api.Spot, werr api.Errno) {
	t.Helper()
	if !slices.Equal(got, want) || err != werr {
		t.Errorf("%s(%d, %d) is %v, %d, not %v, %d", what, high, time, got, err, want, werr)
	}
}

func TestG1SpotsExamples(t *testing.T) {
	for _, x := range []struct {
		high, time int
		want       [][2]int
	}{
		{0, 0, [][2]int{{0, 0}}},
		{1, 0, [][2]int{{0, 0}, {1, 0}}},
		{1, 1, [][2]int{{0, 1}, {1, 0}}},
		{3, 0, [][2]int{{0, 0}, {1, 0}, {2, 0}, {3, 0}}},
		{3, 5, [][2]int{{0, 5}, {1, 2}, {2, 1}, {3, 0}}},
		{3, 7, [][2]int{{0, 7}, {1, 3}, {2, 1}, {3, 0}}},
		{4, 5, [][2]int{{0, 5}, {1, 2}, {2, 1}, {3, 0}, {4, 0}}},
		{10, 1023, [][2]int{{0, 1023}, {1, 511}, {2, 255}, {3, 127}, {4, 63}, {5, 31}, {6, 15}, {7, 7}, {8, 3}, {9, 1}, {10, 0}}},
	} {
		got, err := tree.Spots(x.high, x.time)
		holdSpots(t, "Spots", x.high, x.time, got, err, spots(x.want), api.OK)
	}
}

func TestG1CoverExamples(t *testing.T) {
	for _, x := range []struct {
		high, time int
		want       [][2]int
	}{
		{0, 0, nil},
		{0, 1, [][2]int{{0, 0}}},
		{1, 1, [][2]int{{0, 0}}},
		{1, 2, [][2]int{{1, 0}}},
		{3, 0, nil},
		{3, 3, [][2]int{{1, 0}, {0, 2}}},
		{3, 4, [][2]int{{2, 0}}},
		{3, 5, [][2]int{{2, 0}, {0, 4}}},
		{3, 6, [][2]int{{2, 0}, {1, 2}}},
		{3, 7, [][2]int{{2, 0}, {1, 2}, {0, 6}}},
		{3, 8, [][2]int{{3, 0}}},
		{4, 8, [][2]int{{3, 0}}},
		{10, 1024, [][2]int{{10, 0}}},
		{10, 1023, [][2]int{{9, 0}, {8, 2}, {7, 6}, {6, 14}, {5, 30}, {4, 62}, {3, 126}, {2, 254}, {1, 510}, {0, 1022}}},
	} {
		got, err := tree.Cover(x.high, x.time)
		holdSpots(t, "Cover", x.high, x.time, got, err, spots(x.want), api.OK)
	}
}

// TestG1Ranges: a cover may be asked for at the end of all steps, where no step stands any more.
func TestG1Ranges(t *testing.T) {
	for high := range api.MaxHigh + 1 {
		for _, x := range []struct {
			time         int
			spots, cover api.Errno
		}{
			{math.MinInt, api.ErrRange, api.ErrRange}, {-power(high), api.ErrRange, api.ErrRange}, {-1, api.ErrRange, api.ErrRange},
			{0, api.OK, api.OK}, {power(high) - 1, api.OK, api.OK}, {power(high), api.ErrRange, api.OK},
			{power(high) + 1, api.ErrRange, api.ErrRange}, {2 * power(high), api.ErrRange, api.ErrRange}, {math.MaxInt, api.ErrRange, api.ErrRange},
		} {
			if got, err := tree.Spots(high, x.time); err != x.spots || err != api.OK && len(got) > 0 {
				t.Errorf("Spots(%d, %d) is %v, %d, not %d", high, x.time, got, err, x.spots)
			}
			if got, err := tree.Cover(high, x.time); err != x.cover || err != api.OK && len(got) > 0 {
				t.Errorf("Cover(%d, %d) is %v, %d, not %d", high, x.time, got, err, x.cover)
			}
		}
	}
	for _, high := range notHigh {
		for _, time := range []int{math.MinInt, -1, 0, 1, 2, 2047, 2048, math.MaxInt} {
			got, err := tree.Spots(high, time)
			holdSpots(t, "Spots", high, time, got, err, nil, api.ErrRange)
			got, err = tree.Cover(high, time)
			holdSpots(t, "Cover", high, time, got, err, nil, api.ErrRange)
		}
	}
}

// TestG1StepsStandInOneNodeOfEachLevel holds Spots against all nodes that there are.
func TestG1StepsStandInOneNodeOfEachLevel(t *testing.T) {
	for high := range api.MaxHigh + 1 {
		all := nodes(high)
		for time := range power(high) {
			var want []api.Spot
			for _, s := range all {
				if from, to := stepsOf(s); from <= time && time < to {
					want = append(want, s)
				}
			}
			if len(want) != high+1 {
				t.Fatalf("the step %d stands in %v", time, want)
			}
			got, err := tree.Spots(high, time)
			holdSpots(t, "Spots", high, time, got, err, want, api.OK)
		}
	}
}

// slowCover takes of all nodes again and again the longest that begins where it must and ends by the time.
func slowCover(high, time int) []api.Spot {
	var out []api.Spot
	all := nodes(high)
	for begin := 0; begin < time; {
		var best api.Spot
		end := begin
		for _, s := range all {
			if from, to := stepsOf(s); from == begin && to <= time && to > end {
				best, end = s, to
			}
		}
		out = append(out, best)
		begin = end
	}
	return out
}

func TestG1CoverIsTheLongestFirst(t *testing.T) {
	for high := range api.MaxHigh + 1 {
		for time := range power(high) + 1 {
			got, err := tree.Cover(high, time)
			holdSpots(t, "Cover", high, time, got, err, slowCover(high, time), api.OK)
		}
	}
}

// TestG1CoverIsEachStepOnce: all steps ahead of the time, and none from there on.
func TestG1CoverIsEachStepOnce(t *testing.T) {
	for high := range api.MaxHigh + 1 {
		for time := range power(high) + 1 {
			got, _ := tree.Cover(high, time)
			seen := make([]int, power(high))
			for _, s := range got {
				if s.Level < 0 || s.Level > high || s.At < 0 || s.At >= power(high-s.Level) {
					t.Fatalf("Cover(%d, %d) has %v, which is no node", high, time, s)
				}
				from, to := stepsOf(s)
				for k := from; k < to; k++ {
					seen[k]++
				}
			}
			for k, n := range seen {
				if (k < time) != (n == 1) || n > 1 {
					t.Fatalf("Cover(%d, %d) is %v: the step %d is there %d times", high, time, got, k, n)
				}
			}
		}
	}
}
