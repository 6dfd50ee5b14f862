package sample_test

import (
	"fmt"
	"math"
	"math/big"
	"slices"
	"testing"

	"hushhouse/api"
	"hushhouse/dist"
	"hushhouse/sample"
)

const most = api.MaxPart

func f(up, down int) api.Ratio { return api.Ratio{Up: up, Down: down} }

// line is a distribution of the numbers from 0 on, with these weights; what has none is left out.
func line(weights ...int) api.Dist {
	var out api.Dist
	for i, w := range weights {
		if w > 0 {
			out = append(out, api.Part{Out: []int{i}, Weight: w})
		}
	}
	return out
}

// notRight are no fractions.
func notRight() []api.Ratio {
	return []api.Ratio{
		{}, f(1, 0), f(2, 2), f(4, 2), f(2, 4), f(0, 2), f(-1, 1), f(1, -1), f(-2, -1), f(-1, 2), f(most+1, 1), f(1, most+1),
		f(most, most), f(most, 2), f(math.MaxInt, 1), f(math.MinInt, 1), f(1, math.MinInt), f(math.MaxInt, math.MaxInt),
	}
}

// above are fractions that are more than 1.
func above() []api.Ratio {
	return []api.Ratio{f(2, 1), f(3, 2), f(most, 1), f(most, most-1), f(most-1, 2)}
}

// chances are fractions of at most 1.
func chances() []api.Ratio {
	return []api.Ratio{f(0, 1), f(1, 1), f(1, 2), f(1, 3), f(2, 3), f(3, 4), f(2, 5), f(7, 8), f(8, 9), f(1, 10), f(13, 17), f(30, 31), f(1, 32), f(1, 33), f(3, 1024), f(1024, 1025), f(5, 32768), f(1, 32769), f(1, most), f(most-1, most)}
}

// manyWrong are numbers of rows that may not be sampled.
func manyWrong() []int { return []int{-1, -2, 11, 12, 64, 4096, math.MinInt, math.MaxInt} }

func same(x, y api.Part) bool { return x.Weight == y.Weight && slices.Equal(x.Out, y.Out) }

func hold(t *testing.T, what string, got api.Dist, err api.Errno, want api.Dist, werr api.Errno) {
	t.Helper()
	if err != werr || !slices.EqualFunc(got, want, same) {
		t.Errorf("%s is %v, %d, not %v, %d", what, got, err, want, werr)
	}
	if err == api.OK && dist.Wrong(got) != api.OK {
		t.Errorf("%s is %v: that is no distribution", what, got)
	}
}

func holdSubsets(t *testing.T, p api.Ratio, many int, want api.Dist, werr api.Errno) {
	t.Helper()
	got, err := sample.Subsets(p, many)
	hold(t, fmt.Sprintf("Subsets(%v, %d)", p, many), got, err, want, werr)
}

func TestS1Examples(t *testing.T) {
	holdSubsets(t, f(1, 3), 2, line(4, 2, 2, 1), api.OK)
	holdSubsets(t, f(2, 3), 2, line(1, 2, 2, 4), api.OK)
	holdSubsets(t, f(1, 2), 3, line(1, 1, 1, 1, 1, 1, 1, 1), api.OK)
	holdSubsets(t, f(3, 4), 1, line(1, 3), api.OK)
	holdSubsets(t, f(2, 5), 3, line(27, 18, 18, 12, 18, 12, 12, 8), api.OK)
}

// TestS1NobodyAndAll: of no rows there is one subset; what cannot come is left out.
func TestS1NobodyAndAll(t *testing.T) {
	for _, p := range chances() {
		holdSubsets(t, p, 0, line(1), api.OK)
	}
	for many := range api.MaxSample + 1 {
		holdSubsets(t, f(0, 1), many, api.Dist{{Out: []int{0}, Weight: 1}}, api.OK)
		holdSubsets(t, f(1, 1), many, api.Dist{{Out: []int{1<<many - 1}, Weight: 1}}, api.OK)
	}
}

// slowMuch tells whether down, many times, is too much, by numbers without bounds.
func slowMuch(down, many int) bool {
	return new(big.Int).Exp(big.NewInt(int64(down)), big.NewInt(int64(many)), nil).Cmp(big.NewInt(most)) > 0
}

// slowChance is the chance of a subset, row by row.
func slowChance(p api.Ratio, many, set int) *big.Rat {
	in := big.NewRat(int64(p.Up), int64(p.Down))
	out := new(big.Rat).Sub(big.NewRat(1, 1), in)
	chance := big.NewRat(1, 1)
	for range many {
		if set%2 == 1 {
			chance.Mul(chance, in)
		} else {
			chance.Mul(chance, out)
		}
		set /= 2
	}
	return chance
}

func TestS1Sweep(t *testing.T) {
	for _, p := range chances() {
		for many := range api.MaxSample + 1 {
			if slowMuch(p.Down, many) {
				holdSubsets(t, p, many, nil, api.ErrMuch)
				continue
			}
			got, err := sample.Subsets(p, many)
			if err != api.OK || dist.Wrong(got) != api.OK {
				t.Fatalf("Subsets(%v, %d) is %v, %d", p, many, got, err)
			}
			total := 0
			for _, part := range got {
				total += part.Weight
			}
			at := 0
			for set := range 1 << many {
				want := slowChance(p, many, set)
				if want.Sign() == 0 {
					continue
				}
				if at >= len(got) || !slices.Equal(got[at].Out, []int{set}) || big.NewRat(int64(got[at].Weight), int64(total)).Cmp(want) != 0 {
					t.Fatalf("Subsets(%v, %d) is %v: the chance of %d is %v", p, many, got, set, want)
				}
				at++
			}
			if at != len(got) {
				t.Errorf("Subsets(%v, %d) has %d subsets, not %d", p, many, len(got), at)
			}
		}
	}
}

// TestS1Much: just up to MaxPart, whatever stands above the line.
func TestS1Much(t *testing.T) {
	for _, x := range []struct{ down, many int }{{most, 1}, {1 << 15, 2}, {1 << 10, 3}, {1 << 7, 4}, {1 << 6, 5}, {1 << 5, 6}, {1 << 3, 10}} {
		for _, up := range []int{1, 3, x.down - 1} {
			if got, err := sample.Subsets(f(up, x.down), x.many); err != api.OK || len(got) != 1<<x.many {
				t.Errorf("Subsets(%d/%d, %d) is %v, %d", up, x.down, x.many, got, err)
			}
		}
	}
	for _, x := range []struct{ down, many int }{{most, 2}, {most, 10}, {1<<15 + 1, 2}, {1<<10 + 1, 3}, {182, 4}, {65, 5}, {33, 6}, {20, 7}, {14, 8}, {11, 9}, {9, 10}} {
		for _, up := range []int{1, x.down - 1} {
			holdSubsets(t, f(up, x.down), x.many, nil, api.ErrMuch)
		}
	}
}

// TestS1Wrong: in the order of the document, each ahead of all behind it.
func TestS1Wrong(t *testing.T) {
	all := append(manyWrong(), 0, 1, 2, 10)
	for _, many := range all {
		for _, p := range notRight() {
			holdSubsets(t, p, many, nil, api.ErrForm)
		}
		for _, p := range above() {
			holdSubsets(t, p, many, nil, api.ErrRange)
		}
	}
	for _, many := range manyWrong() {
		for _, p := range chances() {
			holdSubsets(t, p, many, nil, api.ErrMany)
		}
	}
}
