package tree_test

import (
	"math"
	"testing"

	"hushhouse/api"
	"hushhouse/tree"
)

func holdSo(t *testing.T, high int, told [][]int, time, want int, werr api.Errno) {
	t.Helper()
	if got, err := tree.So(high, told, time); got != want || err != werr {
		t.Errorf("So(%d, %v, %d) is %d, %d, not %d, %d", high, told, time, got, err, want, werr)
	}
}

// allTold has a number for each node, as number says.
func allTold(high int, number func(s api.Spot) int) [][]int {
	out := make([][]int, power(high))
	for _, s := range nodes(high) {
		_, to := stepsOf(s)
		out[to-1] = append(out[to-1], number(s))
	}
	return out
}

func TestG4Example(t *testing.T) {
	told := [][]int{{1}, {2, 3}, {4}, {5, 6, 7}, {8}}
	for time, want := range []int{0, 1, 3, 7, 7, 15} {
		holdSo(t, 3, told, time, want, api.OK)
	}
	holdSo(t, 3, told, 6, 0, api.ErrFit)
	holdSo(t, 3, [][]int{{-1}, {2, -3}, {-4}}, 3, -7, api.OK)
	holdSo(t, 0, [][]int{{9}}, 1, 9, api.OK)
}

// TestG4NoSteps: at the time 0 nothing has come, whatever was told.
func TestG4NoSteps(t *testing.T) {
	for high := range api.MaxHigh + 1 {
		for _, told := range [][][]int{nil, {}, {nil}, {{}}, {{7}}, {{math.MaxInt}, {1, 2, 3}}, {nil, nil, nil}} {
			holdSo(t, high, told, 0, 0, api.OK)
		}
	}
}

// TestG4CoverFirst: what Cover says, whatever else is wrong.
func TestG4CoverFirst(t *testing.T) {
	for _, told := range [][][]int{nil, {}, {nil}, {{1}, {2, 3}, {4}, {5, 6, 7}}, {{math.MaxInt}}} {
		for _, high := range notHigh {
			for _, time := range []int{-1, 0, 1, 2, math.MinInt, math.MaxInt} {
				holdSo(t, high, told, time, 0, api.ErrRange)
			}
		}
		for high := range api.MaxHigh + 1 {
			for _, time := range []int{math.MinInt, -1, power(high) + 1, math.MaxInt} {
				holdSo(t, high, told, time, 0, api.ErrRange)
			}
		}
	}
}

// TestG4TooFewSteps: as many as the time there must be, more there may be, also more than time has.
func TestG4TooFewSteps(t *testing.T) {
	for high := range 6 {
		told := allTold(high, func(api.Spot) int { return 1 })
		for time := range power(high) + 1 {
			cover, _ := tree.Cover(high, time)
			for many := range time {
				holdSo(t, high, told[:many:many], time, 0, api.ErrFit)
				holdSo(t, high, told[:many], time, 0, api.ErrFit) // what lies in the spare room was not told
			}
			for many := time; many <= power(high); many++ {
				holdSo(t, high, told[:many], time, len(cover), api.OK)
			}
		}
		more := append(told, []int{1}, nil, []int{math.MaxInt})
		holdSo(t, high, more, power(high), 1, api.OK)
	}
}

// TestG4Sums: each number of the cover's nodes counts once, and no other one does.
func TestG4Sums(t *testing.T) {
	for high := range api.MaxHigh + 1 {
		told := allTold(high, func(s api.Spot) int { return 31*s.Level*s.Level + 7*s.At - 1000 })
		for time := range power(high) + 1 {
			want := 0
			for _, s := range slowCover(high, time) {
				want += 31*s.Level*s.Level + 7*s.At - 1000
			}
			holdSo(t, high, told, time, want, api.OK)
		}
	}
}

// TestG4WhatHasCome: where all is told as it is, all items ahead of a time come out.
func TestG4WhatHasCome(t *testing.T) {
	for high := range api.MaxHigh + 1 {
		var items []int
		var told [][]int
		for step := range power(high) {
			items = append(items, (step*step+3)%11)
			told = append(told, wholeSums(high, items))
		}
		sum := 0
		for time := range power(high) + 1 {
			holdSo(t, high, told, time, sum, api.OK)
			if time < len(items) {
				sum += items[time]
			}
		}
	}
}

// TestG4Lists: a list may be too short for its node's level, where the node is of the cover; elsewhere, and longer, it may be as it is.
func TestG4Lists(t *testing.T) {
	for high := range 5 {
		for time := range power(high) + 1 {
			cover := slowCover(high, time)
			need := make([]int, power(high)) // how long the list of each step must be
			for _, s := range cover {
				_, to := stepsOf(s)
				need[to-1] = s.Level + 1
			}
			for step := range need {
				for long := range high + 3 {
					told := allTold(high, func(api.Spot) int { return 5 })
					told[step] = make([]int, long, high+3)
					for k := range told[step] {
						told[step][k] = 1000 + k // none of these is added
					}
					if need[step] > 0 && need[step] <= long {
						told[step][need[step]-1] = 5
					}
					if long < need[step] {
						holdSo(t, high, told, time, 0, api.ErrFit)
					} else {
						holdSo(t, high, told, time, 5*len(cover), api.OK)
					}
				}
			}
		}
	}
	holdSo(t, 3, [][]int{{1}, {2}}, 2, 0, api.ErrFit)
	holdSo(t, 3, [][]int{{1}, nil, {3}}, 1, 1, api.OK)
	holdSo(t, 3, [][]int{nil}, 1, 0, api.ErrFit)
}

// edges are numbers at the bounds, and beyond them.
var edges = []struct {
	number int
	fits   bool
}{
	{api.MaxNum, true}, {-api.MaxNum, true}, {api.MaxNum + 1, false}, {-api.MaxNum - 1, false},
	{math.MaxInt, false}, {math.MinInt, false}, {1 << 32, false}, {-1 << 32, false},
}

// holdEdge tells a number of one node, threes of all others, and holds what So makes of them.
func holdEdge(t *testing.T, high, time int, at api.Spot, number int, fits bool) {
	t.Helper()
	told := allTold(high, func(s api.Spot) int {
		if s == at {
			return number
		}
		return 3
	})
	_, end := stepsOf(at)
	sum, asked := 0, false // asked: a node of the cover ends with the step at which the number was told
	for _, s := range slowCover(high, time) {
		_, to := stepsOf(s)
		asked = asked || to == end
		sum += told[to-1][s.Level]
	}
	if asked && !fits {
		holdSo(t, high, told, time, 0, api.ErrFit)
	} else {
		holdSo(t, high, told, time, sum, api.OK)
	}
}

// TestG4Numbers: the bounds of numbers, in each node: those that were told at the last steps of the cover's nodes are asked for, all of them, and no others.
func TestG4Numbers(t *testing.T) {
	const high = 4
	for time := range power(high) + 1 {
		for _, at := range nodes(high) {
			for _, x := range edges {
				holdEdge(t, high, time, at, x.number, x.fits)
			}
		}
	}
}

// TestG4NumbersOfNoNode: a number beyond the bounds counts also where it stands behind those of all nodes that ended.
func TestG4NumbersOfNoNode(t *testing.T) {
	const high = 3
	for time := range power(high) + 1 {
		cover := slowCover(high, time)
		ends := map[int]bool{}
		for _, s := range cover {
			_, to := stepsOf(s)
			ends[to-1] = true
		}
		for step := range power(high) {
			for _, x := range edges {
				for _, behind := range [][]int{{x.number}, {0, x.number}, {x.number, 0}} {
					told := allTold(high, func(api.Spot) int { return 3 })
					told[step] = append(told[step], behind...)
					if ends[step] && !x.fits {
						holdSo(t, high, told, time, 0, api.ErrFit)
					} else {
						holdSo(t, high, told, time, 3*len(cover), api.OK)
					}
				}
			}
		}
	}
}

// TestG4NumbersExample: a number of another level, one of no level, and one of a step with which no node of the cover ends.
func TestG4NumbersExample(t *testing.T) {
	holdSo(t, 1, [][]int{{7}, {4, 1}}, 2, 1, api.OK)
	holdSo(t, 1, [][]int{{7}, {api.MaxNum + 1, 1}}, 2, 0, api.ErrFit)
	holdSo(t, 1, [][]int{{7}, {4, 1, math.MinInt}}, 2, 0, api.ErrFit)
	holdSo(t, 1, [][]int{{7}, {api.MaxNum, 1, -api.MaxNum}}, 2, 1, api.OK)
	holdSo(t, 1, [][]int{{api.MaxNum + 1}, {4, 1}}, 2, 1, api.OK)
	holdSo(t, 2, [][]int{{7}, {4, 1}, {2, math.MaxInt}}, 3, 0, api.ErrFit)
	holdSo(t, 2, [][]int{{7}, {4, 1}, {2, math.MaxInt}}, 2, 1, api.OK)
	holdSo(t, 1, [][]int{{7}, roomy([]int{4, 1}, math.MaxInt)}, 2, 1, api.OK) // what lies in the spare room was not told
}

// TestG4Greatest: as many and as large numbers as there may be.
func TestG4Greatest(t *testing.T) {
	for _, sign := range []int{1, -1} {
		told := allTold(api.MaxHigh, func(api.Spot) int { return sign * api.MaxNum })
		holdSo(t, api.MaxHigh, told, 1023, sign*10*api.MaxNum, api.OK)
		holdSo(t, api.MaxHigh, told, 1024, sign*api.MaxNum, api.OK)
		told[1022][0] = sign * (api.MaxNum + 1)
		holdSo(t, api.MaxHigh, told, 1023, 0, api.ErrFit)
		holdSo(t, api.MaxHigh, told, 1024, sign*api.MaxNum, api.OK)
		told[1023][4] = sign * (api.MaxNum + 1)
		holdSo(t, api.MaxHigh, told, 1024, 0, api.ErrFit)
	}
}
