package crowd_test

import (
	"math"
	"math/big"
	"math/rand"
	"slices"
	"testing"

	"hushhouse/api"
	"hushhouse/crowd"
	"hushhouse/ratio"
)

func TestL3Examples(t *testing.T) {
	for _, x := range []struct {
		r           api.Ratio
		heard, want []int
		over        int
	}{
		{f(2, 1), []int{2, 1}, []int{3, 0}, 1},
		{f(2, 1), []int{0, 1, 1}, []int{-2, 2, 2}, 1},
		{f(3, 2), []int{0, 2}, []int{-4, 6}, 1},
		{f(3, 1), []int{5, 2, 9}, []int{9, -6, 29}, 2},
		{f(3, 1), []int{2, 0}, []int{3, -1}, 1},
		{f(3, 1), []int{2, 1}, []int{5, 1}, 2},
		{f(5, 1), []int{3, 3}, []int{3, 3}, 1},
		{f(5, 1), []int{3, 1}, []int{7, 1}, 2},
		{f(5, 1), []int{1, 0}, []int{5, -1}, 4},
		{f(7, 3), []int{1, 0, 0}, []int{10, -3, -3}, 4},
		{f(2, 1), []int{0, 0}, []int{0, 0}, 1},
		{f(9, 2), []int{0, 0, 0, 0, 0, 0, 0, 0}, []int{0, 0, 0, 0, 0, 0, 0, 0}, 1},
		{f(9, 2), []int{17}, []int{17}, 1},
		{f(9, 2), []int{0}, []int{0}, 1},
		{f(most, 1), []int{api.MaxRows}, []int{api.MaxRows}, 1},
		{f(most, most-1), []int{api.MaxRows}, []int{api.MaxRows}, 1},
		{f(most-1, 1), []int{1, 0}, []int{most - 1, -1}, most - 2},
		{f(most/2+1, most/2-1), []int{api.MaxRows, 0}, []int{api.MaxRows * (most/2 + 1) / 2, -api.MaxRows * (most/2 - 1) / 2}, 1},
	} {
		holdGuess(t, x.r, x.heard, x.want, x.over, api.OK)
	}
}

// TestL3Kinds: as L1, of as many kinds as numbers, ahead of all else.
func TestL3Kinds(t *testing.T) {
	for _, r := range slices.Concat(notRight(), below(), losses()) {
		holdGuess(t, r, nil, nil, 0, api.ErrRange)
		holdGuess(t, r, []int{}, nil, 0, api.ErrRange)
		for _, many := range []int{api.MaxPick + 1, api.MaxPick + 2, api.MaxCrowd + 1, 5000} {
			holdGuess(t, r, make([]int, many), nil, 0, api.ErrRange)
			holdGuess(t, r, slices.Repeat([]int{-1}, many), nil, 0, api.ErrRange)
		}
	}
}

// TestL3Loss: what Respond says of the loss, ahead of what was heard.
func TestL3Loss(t *testing.T) {
	for kinds := 1; kinds <= api.MaxPick; kinds++ {
		for _, number := range []int{0, 3, -1, api.MaxRows + 1} {
			heard := slices.Repeat([]int{number}, kinds)
			for _, r := range notRight() {
				holdGuess(t, r, heard, nil, 0, api.ErrForm)
			}
			for _, r := range below() {
				holdGuess(t, r, heard, nil, 0, api.ErrRange)
			}
			holdGuess(t, f(1, 1), heard, nil, 0, api.ErrNone)
			if kinds == 1 {
				continue
			}
			for _, r := range []api.Ratio{f(most, 1), f(most-kinds+2, 1), f(most, most-1), f(most-1, most-2)} {
				holdGuess(t, r, heard, nil, 0, api.ErrMuch)
			}
		}
		heard := make([]int, kinds)
		holdGuess(t, f(most-kinds+1, 1), heard, heard, 1, api.OK) // just not too much
	}
}

func TestL3Fit(t *testing.T) {
	for kinds := 1; kinds <= api.MaxPick; kinds++ {
		for at := range kinds {
			for _, bad := range []int{-1, -api.MaxRows, api.MaxRows + 1, 1 << 40, math.MaxInt, math.MinInt} {
				heard := slices.Repeat([]int{1}, kinds)
				heard[at] = bad
				holdGuess(t, f(3, 2), heard, nil, 0, api.ErrFit)
			}
			for _, good := range []int{0, api.MaxRows} {
				heard := make([]int, kinds)
				heard[at] = good
				up, down := slowGuess(f(3, 2), heard)
				holdGuess(t, f(3, 2), heard, up, down, api.OK)
			}
		}
	}
}

// slowGuess says what L3 says in numbers without bounds.
func slowGuess(r api.Ratio, heard []int) ([]int, int) {
	number := func(x int) *big.Int { return big.NewInt(int64(x)) }
	n := new(big.Int)
	for _, x := range heard {
		n.Add(n, number(x))
	}
	spread := new(big.Int).Add(number(r.Up), new(big.Int).Mul(number(len(heard)-1), number(r.Down)))
	var parts []*big.Rat
	over := number(1) // the least number that all fractions can stand over
	for _, x := range heard {
		up := new(big.Int).Sub(new(big.Int).Mul(spread, number(x)), new(big.Int).Mul(n, number(r.Down)))
		part := new(big.Rat).SetFrac(up, number(r.Up-r.Down))
		parts = append(parts, part)
		by := new(big.Int).GCD(nil, nil, over, part.Denom())
		over.Mul(over, new(big.Int).Div(part.Denom(), by))
	}
	var out []int
	for _, part := range parts {
		out = append(out, int(new(big.Rat).Mul(part, new(big.Rat).SetInt(over)).Num().Int64()))
	}
	return out, int(over.Int64())
}

func TestL3Sweep(t *testing.T) {
	any := rand.New(rand.NewSource(17))
	told := 0
	for range 20000 {
		size := []int{4, 40, 1 << 10, 1 << 20, most / 8}[any.Intn(5)]
		r, err := ratio.Make(1+any.Intn(size), 1+any.Intn(size))
		if err != api.OK || r.Up <= r.Down {
			continue
		}
		heard := make([]int, 1+any.Intn(api.MaxPick))
		for i := range heard {
			heard[i] = any.Intn([]int{2, 10, api.MaxRows + 1}[any.Intn(3)])
		}
		up, down := slowGuess(r, heard)
		holdGuess(t, r, heard, up, down, api.OK)
		told++
	}
	if told < 5000 {
		t.Errorf("too few are tried: %d", told)
	}
}

// TestL3Large: the largest numbers that may stand together.
func TestL3Large(t *testing.T) {
	heard := slices.Repeat([]int{api.MaxRows}, api.MaxPick)
	for _, r := range []api.Ratio{f(most/8+7, most/8-1), f(most-7, 1), f(most/2, 1<<26-1), f(2, 1)} {
		for at := range heard {
			for _, number := range []int{0, 1, api.MaxRows} {
				heard[at] = number
				up, down := slowGuess(r, heard)
				holdGuess(t, r, heard, up, down, api.OK)
			}
		}
		for i := range heard {
			heard[i] = 0
		}
		heard[3] = api.MaxRows
		up, down := slowGuess(r, heard)
		holdGuess(t, r, heard, up, down, api.OK)
		heard = slices.Repeat([]int{api.MaxRows}, api.MaxPick)
	}
}

// TestL2L3OnTheWhole: what is guessed of what may be heard of a crowd is, on the whole, how many are of each kind.
func TestL2L3OnTheWhole(t *testing.T) {
	any := rand.New(rand.NewSource(18))
	for range 100 {
		kinds := 1 + any.Intn(4)
		truths := anyKinds(any, any.Intn(6), kinds)
		r := []api.Ratio{f(2, 1), f(3, 2), f(7, 2), f(5, 1)}[any.Intn(4)]
		d, err := crowd.Shuffled(r, kinds, truths)
		if err != api.OK {
			t.Fatalf("Shuffled of %v tells %d", truths, err)
		}
		sums, all := make([]big.Rat, kinds), int64(0)
		for _, p := range d {
			up, down, err := crowd.Guess(r, p.Out)
			if err != api.OK || len(up) != kinds {
				t.Fatalf("Guess of %v is %v, %d", p.Out, up, err)
			}
			for kind, x := range up {
				sums[kind].Add(&sums[kind], big.NewRat(int64(x)*int64(p.Weight), int64(down)))
			}
			all += int64(p.Weight)
		}
		counts := make([]int64, kinds)
		for _, truth := range truths {
			counts[truth]++
		}
		for kind := range kinds {
			if sums[kind].Cmp(big.NewRat(counts[kind]*all, 1)) != 0 {
				t.Errorf("of %v kind %d is guessed %v over %d times", truths, kind, &sums[kind], all)
			}
		}
	}
}
