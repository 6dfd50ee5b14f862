package ratio_test

import (
	"math"
	"math/big"
	"testing"

	"hushhouse/api"
	"hushhouse/ratio"
)

const most = api.MaxPart

// asked is what is done with two fractions.
type asked func(a, b api.Ratio) (api.Ratio, api.Errno)

// wrongs are no fractions: parts out of their bounds, or not in lowest terms.
var wrongs = []api.Ratio{
	{Up: 0, Down: 0}, {Up: 1, Down: 0}, {Up: 1, Down: -1}, {Up: -1, Down: 1}, {Up: -1, Down: -1}, {Up: -1, Down: 2},
	{Up: 0, Down: 2}, {Up: 0, Down: most}, {Up: 2, Down: 4}, {Up: 7, Down: 7}, {Up: most, Down: 2}, {Up: most, Down: most},
	{Up: most + 1, Down: 1}, {Up: 1, Down: most + 1}, {Up: 0, Down: most + 1}, {Up: most + 1, Down: most + 1},
	{Up: math.MaxInt, Down: 1}, {Up: 1, Down: math.MaxInt}, {Up: math.MaxInt, Down: math.MaxInt},
	{Up: math.MinInt, Down: 1}, {Up: 1, Down: math.MinInt}, {Up: math.MinInt, Down: math.MinInt},
}

// rights are fractions, the edges among them.
func rights() []api.Ratio {
	out := []api.Ratio{
		{Up: most, Down: 1}, {Up: 1, Down: most}, {Up: most, Down: most - 1}, {Up: most - 1, Down: most},
		{Up: most - 1, Down: 1}, {Up: 1, Down: most - 1}, {Up: most, Down: 3}, {Up: 3, Down: most},
		{Up: 1 << 15, Down: 1}, {Up: 1, Down: 1 << 15}, {Up: 1 << 29, Down: 1}, {Up: 1, Down: 1 << 29},
		{Up: 1<<15 + 1, Down: 1 << 15}, {Up: 32767, Down: 32768},
	}
	for up := range 9 {
		for down := 1; down < 9; down++ {
			if new(big.Int).GCD(nil, nil, big.NewInt(int64(up)), big.NewInt(int64(down))).Int64() == 1 {
				out = append(out, api.Ratio{Up: up, Down: down})
			}
		}
	}
	return out
}

// whole is a fraction without bounds.
func whole(r api.Ratio) *big.Rat { return big.NewRat(int64(r.Up), int64(r.Down)) }

// told is how a number must be answered: in lowest terms, and ErrRange or ErrMuch where F1 says so.
func told(x *big.Rat) (api.Ratio, api.Errno) {
	bound := big.NewInt(most)
	switch {
	case x.Sign() < 0:
		return api.Ratio{}, api.ErrRange
	case x.Num().Cmp(bound) > 0 || x.Denom().Cmp(bound) > 0:
		return api.Ratio{}, api.ErrMuch
	}
	return api.Ratio{Up: int(x.Num().Int64()), Down: int(x.Denom().Int64())}, api.OK
}

func TestF1Right(t *testing.T) {
	for _, r := range rights() {
		if !ratio.Right(r) {
			t.Errorf("Right(%v) is false", r)
		}
	}
	for _, r := range wrongs {
		if ratio.Right(r) {
			t.Errorf("Right(%v) is true", r)
		}
	}
}

func TestF1Make(t *testing.T) {
	for _, x := range []struct {
		up, down int
		want     api.Ratio
		err      api.Errno
	}{
		{6, 4, api.Ratio{Up: 3, Down: 2}, api.OK},
		{3, 2, api.Ratio{Up: 3, Down: 2}, api.OK},
		{5, 5, api.Ratio{Up: 1, Down: 1}, api.OK},
		{12, 4, api.Ratio{Up: 3, Down: 1}, api.OK},
		{0, 1, api.Ratio{Up: 0, Down: 1}, api.OK},
		{0, 7, api.Ratio{Up: 0, Down: 1}, api.OK},
		{0, math.MaxInt, api.Ratio{Up: 0, Down: 1}, api.OK},
		{most, 1, api.Ratio{Up: most, Down: 1}, api.OK},
		{1, most, api.Ratio{Up: 1, Down: most}, api.OK},
		{most, most, api.Ratio{Up: 1, Down: 1}, api.OK},
		{most + 1, most + 1, api.Ratio{Up: 1, Down: 1}, api.OK},
		{2 * most, 2, api.Ratio{Up: most, Down: 1}, api.OK},
		{3, 3 * most, api.Ratio{Up: 1, Down: most}, api.OK},
		{math.MaxInt, math.MaxInt, api.Ratio{Up: 1, Down: 1}, api.OK},
		{most + 1, 1, api.Ratio{}, api.ErrMuch},
		{1, most + 1, api.Ratio{}, api.ErrMuch},
		{2*most + 2, 2, api.Ratio{}, api.ErrMuch},
		{most + 1, most, api.Ratio{}, api.ErrMuch},
		{most, most + 1, api.Ratio{}, api.ErrMuch},
		{math.MaxInt, 1, api.Ratio{}, api.ErrMuch},
		{math.MaxInt, math.MaxInt - 1, api.Ratio{}, api.ErrMuch},
		{-1, 2, api.Ratio{}, api.ErrRange},
		{1, 0, api.Ratio{}, api.ErrRange},
		{0, 0, api.Ratio{}, api.ErrRange},
		{1, -1, api.Ratio{}, api.ErrRange},
		{-1, -1, api.Ratio{}, api.ErrRange},
		{0, -1, api.Ratio{}, api.ErrRange},
		{-1, most + 1, api.Ratio{}, api.ErrRange},
		{most + 1, 0, api.Ratio{}, api.ErrRange},
		{math.MinInt, 1, api.Ratio{}, api.ErrRange},
		{1, math.MinInt, api.Ratio{}, api.ErrRange},
		{math.MinInt, math.MinInt, api.Ratio{}, api.ErrRange},
	} {
		if got, err := ratio.Make(x.up, x.down); got != x.want || err != x.err {
			t.Errorf("Make(%d, %d) is %v %d, not %v %d", x.up, x.down, got, err, x.want, x.err)
		}
	}
}

// TestF1MakeRight: what Make answers is right, is what was asked for, and stays itself.
func TestF1MakeRight(t *testing.T) {
	for up := range 40 {
		for down := 1; down < 40; down++ {
			got, err := ratio.Make(up, down)
			want, _ := told(big.NewRat(int64(up), int64(down)))
			if err != api.OK || got != want || !ratio.Right(got) {
				t.Errorf("Make(%d, %d) is %v %d, not %v", up, down, got, err, want)
			}
			if again, err := ratio.Make(got.Up, got.Down); err != api.OK || again != got {
				t.Errorf("Make of %v is %v %d", got, again, err)
			}
		}
	}
}

func TestF2Examples(t *testing.T) {
	f := func(up, down int) api.Ratio { return api.Ratio{Up: up, Down: down} }
	for _, x := range []struct {
		name string
		do   asked
		a, b api.Ratio
		want api.Ratio
		err  api.Errno
	}{
		{"Times", ratio.Times, f(2, 3), f(3, 4), f(1, 2), api.OK},
		{"Times", ratio.Times, f(0, 1), f(most, 1), f(0, 1), api.OK},
		{"Times", ratio.Times, f(most, 3), f(3, most), f(1, 1), api.OK},
		{"Times", ratio.Times, f(1<<15, 1), f(1<<15, 1), f(most, 1), api.OK},
		{"Times", ratio.Times, f(1<<15+1, 1), f(1<<15, 1), f(0, 0), api.ErrMuch},
		{"Times", ratio.Times, f(1, 2), f(1, most), f(0, 0), api.ErrMuch},
		{"Over", ratio.Over, f(2, 3), f(3, 4), f(8, 9), api.OK},
		{"Over", ratio.Over, f(0, 1), f(3, 4), f(0, 1), api.OK},
		{"Over", ratio.Over, f(most, 1), f(most, 3), f(3, 1), api.OK},
		{"Over", ratio.Over, f(1, 2), f(0, 1), f(0, 0), api.ErrRange},
		{"Over", ratio.Over, f(0, 1), f(0, 1), f(0, 0), api.ErrRange},
		{"Over", ratio.Over, f(most, 1), f(0, 1), f(0, 0), api.ErrRange},
		{"Over", ratio.Over, f(2, 1), f(1, most), f(0, 0), api.ErrMuch},
		{"Plus", ratio.Plus, f(2, 3), f(3, 4), f(17, 12), api.OK},
		{"Plus", ratio.Plus, f(0, 1), f(0, 1), f(0, 1), api.OK},
		{"Plus", ratio.Plus, f(1, most), f(1, most), f(1, 1<<29), api.OK},
		{"Plus", ratio.Plus, f(most-1, 1), f(1, 1), f(most, 1), api.OK},
		{"Plus", ratio.Plus, f(most, 1), f(1, 1), f(0, 0), api.ErrMuch},
		{"Plus", ratio.Plus, f(most, most-1), f(most-1, most), f(0, 0), api.ErrMuch},
		{"Minus", ratio.Minus, f(3, 4), f(2, 3), f(1, 12), api.OK},
		{"Minus", ratio.Minus, f(1, 2), f(1, 2), f(0, 1), api.OK},
		{"Minus", ratio.Minus, f(1, most), f(1, most), f(0, 1), api.OK},
		{"Minus", ratio.Minus, f(1, 3), f(1, 2), f(0, 0), api.ErrRange},
		{"Minus", ratio.Minus, f(0, 1), f(1, most), f(0, 0), api.ErrRange},
		{"Minus", ratio.Minus, f(1, most), f(1, most-1), f(0, 0), api.ErrRange},
		{"Minus", ratio.Minus, f(1, most-1), f(1, most), f(0, 0), api.ErrMuch},
	} {
		if got, err := x.do(x.a, x.b); got != x.want || err != x.err {
			t.Errorf("%s(%v, %v) is %v %d, not %v %d", x.name, x.a, x.b, got, err, x.want, x.err)
		}
	}
}

// TestF2Sweep holds all pairs of fractions against numbers without bounds.
func TestF2Sweep(t *testing.T) {
	check := func(name string, do asked, a, b api.Ratio, want api.Ratio, werr api.Errno) {
		if got, err := do(a, b); got != want || err != werr {
			t.Errorf("%s(%v, %v) is %v %d, not %v %d", name, a, b, got, err, want, werr)
		}
	}
	for _, a := range rights() {
		for _, b := range rights() {
			x, y := whole(a), whole(b)
			want, err := told(new(big.Rat).Mul(x, y))
			check("Times", ratio.Times, a, b, want, err)
			want, err = told(new(big.Rat).Add(x, y))
			check("Plus", ratio.Plus, a, b, want, err)
			want, err = told(new(big.Rat).Sub(x, y))
			check("Minus", ratio.Minus, a, b, want, err)
			want, err = api.Ratio{}, api.ErrRange
			if y.Sign() != 0 {
				want, err = told(new(big.Rat).Quo(x, y))
			}
			check("Over", ratio.Over, a, b, want, err)
			if got, err := ratio.Order(a, b); got != x.Cmp(y) || err != api.OK {
				t.Errorf("Order(%v, %v) is %d %d, not %d", a, b, got, err, x.Cmp(y))
			}
		}
	}
}

// TestF2Form: what is not right is told ahead of all else, on either side: also where b of Over looks like 0, where a of Minus looks less than b, and where too much would come out.
func TestF2Form(t *testing.T) {
	check := func(a, b api.Ratio) {
		for name, do := range map[string]asked{"Times": ratio.Times, "Over": ratio.Over, "Plus": ratio.Plus, "Minus": ratio.Minus} {
			if got, err := do(a, b); got != (api.Ratio{}) || err != api.ErrForm {
				t.Errorf("%s(%v, %v) is %v %d", name, a, b, got, err)
			}
		}
		if got, err := ratio.Order(a, b); got != 0 || err != api.ErrForm {
			t.Errorf("Order(%v, %v) is %d %d", a, b, got, err)
		}
	}
	for _, w := range wrongs {
		for _, r := range rights() {
			check(w, r)
			check(r, w)
		}
		for _, v := range wrongs {
			check(w, v)
		}
	}
}

func TestF2Order(t *testing.T) {
	for _, x := range []struct {
		a, b api.Ratio
		want int
	}{
		{api.Ratio{Up: 1, Down: 3}, api.Ratio{Up: 1, Down: 2}, -1},
		{api.Ratio{Up: 7, Down: 5}, api.Ratio{Up: 7, Down: 5}, 0},
		{api.Ratio{Up: 1, Down: 2}, api.Ratio{Up: 0, Down: 1}, 1},
		{api.Ratio{Up: 0, Down: 1}, api.Ratio{Up: 0, Down: 1}, 0},
		{api.Ratio{Up: most, Down: most - 1}, api.Ratio{Up: most - 1, Down: most - 2}, -1},
		{api.Ratio{Up: most, Down: 1}, api.Ratio{Up: 1, Down: most}, 1},
	} {
		if got, err := ratio.Order(x.a, x.b); got != x.want || err != api.OK {
			t.Errorf("Order(%v, %v) is %d %d, not %d", x.a, x.b, got, err, x.want)
		}
	}
}

func TestF3Power(t *testing.T) {
	for _, x := range []struct {
		r    api.Ratio
		n    int
		want api.Ratio
		err  api.Errno
	}{
		{api.Ratio{Up: 2, Down: 3}, 0, api.Ratio{Up: 1, Down: 1}, api.OK},
		{api.Ratio{Up: 2, Down: 3}, 1, api.Ratio{Up: 2, Down: 3}, api.OK},
		{api.Ratio{Up: 2, Down: 3}, 5, api.Ratio{Up: 32, Down: 243}, api.OK},
		{api.Ratio{Up: 2, Down: 1}, 30, api.Ratio{Up: most, Down: 1}, api.OK},
		{api.Ratio{Up: 2, Down: 1}, 31, api.Ratio{}, api.ErrMuch},
		{api.Ratio{Up: 1, Down: 2}, 30, api.Ratio{Up: 1, Down: most}, api.OK},
		{api.Ratio{Up: 1, Down: 2}, 31, api.Ratio{}, api.ErrMuch},
		{api.Ratio{Up: 1, Down: 2}, 64, api.Ratio{}, api.ErrMuch},
		{api.Ratio{Up: 1, Down: 2}, api.MaxOuts, api.Ratio{}, api.ErrMuch},
		{api.Ratio{Up: most, Down: 1}, 1, api.Ratio{Up: most, Down: 1}, api.OK},
		{api.Ratio{Up: most, Down: 1}, 2, api.Ratio{}, api.ErrMuch},
		{api.Ratio{Up: 0, Down: 1}, 0, api.Ratio{Up: 1, Down: 1}, api.OK},
		{api.Ratio{Up: 0, Down: 1}, 1, api.Ratio{Up: 0, Down: 1}, api.OK},
		{api.Ratio{Up: 0, Down: 1}, api.MaxOuts, api.Ratio{Up: 0, Down: 1}, api.OK},
		{api.Ratio{Up: 1, Down: 1}, api.MaxOuts, api.Ratio{Up: 1, Down: 1}, api.OK},
		{api.Ratio{Up: 1, Down: 1}, api.MaxOuts + 1, api.Ratio{}, api.ErrRange},
		{api.Ratio{Up: 0, Down: 1}, api.MaxOuts + 1, api.Ratio{}, api.ErrRange},
		{api.Ratio{Up: 2, Down: 1}, api.MaxOuts + 1, api.Ratio{}, api.ErrRange},
		{api.Ratio{Up: 1, Down: 1}, math.MaxInt, api.Ratio{}, api.ErrRange},
		{api.Ratio{Up: 1, Down: 1}, -1, api.Ratio{}, api.ErrRange},
		{api.Ratio{Up: 1, Down: 1}, math.MinInt, api.Ratio{}, api.ErrRange},
	} {
		if got, err := ratio.Power(x.r, x.n); got != x.want || err != x.err {
			t.Errorf("Power(%v, %d) is %v %d, not %v %d", x.r, x.n, got, err, x.want, x.err)
		}
	}
}

// TestF3Sweep holds powers against numbers without bounds.
func TestF3Sweep(t *testing.T) {
	for _, r := range rights() {
		x := big.NewRat(1, 1)
		for n := range 70 {
			want, werr := told(x)
			if got, err := ratio.Power(r, n); got != want || err != werr {
				t.Errorf("Power(%v, %d) is %v %d, not %v %d", r, n, got, err, want, werr)
			}
			x.Mul(x, whole(r))
		}
	}
}

// TestF3Form: what is not right is told ahead of an n that is out of its bounds.
func TestF3Form(t *testing.T) {
	for _, w := range wrongs {
		for _, n := range []int{-1, 0, 1, 2, api.MaxOuts, api.MaxOuts + 1, math.MinInt, math.MaxInt} {
			if got, err := ratio.Power(w, n); got != (api.Ratio{}) || err != api.ErrForm {
				t.Errorf("Power(%v, %d) is %v %d", w, n, got, err)
			}
		}
	}
}
