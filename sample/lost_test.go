package sample_test

import (
	"math/big"
	"math/rand"
	"testing"

	"hushhouse/api"
	"hushhouse/sample"
)

func holdLost(t *testing.T, p, r, want api.Ratio, werr api.Errno) {
	t.Helper()
	if got, err := sample.Lost(p, r); got != want || err != werr {
		t.Errorf("Lost(%v, %v) is %v, %d, not %v, %d", p, r, got, err, want, werr)
	}
}

func TestS3Examples(t *testing.T) {
	for _, x := range []struct{ p, r, want api.Ratio }{
		{f(1, 2), f(5, 2), f(7, 4)},
		{f(1, 3), f(5, 2), f(3, 2)},
		{f(1, 3), f(2, 1), f(4, 3)},
		{f(0, 1), f(5, 2), f(1, 1)},
		{f(0, 1), f(most, 1), f(1, 1)},
		{f(1, 1), f(5, 2), f(5, 2)},
		{f(1, 1), f(most, 1), f(most, 1)},
		{f(1, 1), f(most, most-1), f(most, most-1)},
		{f(1, 7), f(1, 1), f(1, 1)},
		{f(1, most-1), f(most, 1), f(2, 1)},
	} {
		holdLost(t, x.p, x.r, x.want, api.OK)
	}
}

// TestS3Wrong: p ahead of r; p as Subsets tells it.
func TestS3Wrong(t *testing.T) {
	none := api.Ratio{}
	others := append(append(notRight(), above()...), chances()...)
	for _, r := range others {
		for _, p := range notRight() {
			holdLost(t, p, r, none, api.ErrForm)
		}
		for _, p := range above() {
			holdLost(t, p, r, none, api.ErrRange)
		}
	}
	for _, p := range chances() {
		for _, r := range notRight() {
			holdLost(t, p, r, none, api.ErrForm)
		}
		for _, r := range []api.Ratio{f(0, 1), f(1, 2), f(1, most), f(most-1, most)} {
			holdLost(t, p, r, none, api.ErrRange)
		}
	}
}

// TestS3Much: of the product, and of the sum alone.
func TestS3Much(t *testing.T) {
	none := api.Ratio{}
	holdLost(t, f(1, most), f(3, 2), none, api.ErrMuch)
	holdLost(t, f(1, 1<<15), f(1<<16-1, 1<<15), none, api.ErrMuch)
	holdLost(t, f(1, most), f(2, 1), none, api.ErrMuch)
	holdLost(t, f(most-1, most), f(2, 1), none, api.ErrMuch)
	holdLost(t, f(1, most/2), f(2, 1), f(most/2+1, most/2), api.OK)
}

// slowLost says what S3 says in numbers without bounds, step by step.
func slowLost(p, r api.Ratio) (api.Ratio, api.Errno) {
	one := big.NewRat(1, 1)
	fits := func(x *big.Rat) bool {
		return x.Num().Cmp(big.NewInt(most)) <= 0 && x.Denom().Cmp(big.NewInt(most)) <= 0
	}
	x := new(big.Rat).Sub(big.NewRat(int64(r.Up), int64(r.Down)), one)
	if x.Sign() < 0 {
		return api.Ratio{}, api.ErrRange
	}
	for _, step := range []func(){
		func() {},
		func() { x.Mul(x, big.NewRat(int64(p.Up), int64(p.Down))) },
		func() { x.Add(x, one) },
	} {
		if step(); !fits(x) {
			return api.Ratio{}, api.ErrMuch
		}
	}
	return f(int(x.Num().Int64()), int(x.Denom().Int64())), api.OK
}

// inLowest is a fraction of two numbers from 1 on.
func inLowest(up, down int) api.Ratio {
	x := big.NewRat(int64(up), int64(down))
	return f(int(x.Num().Int64()), int(x.Denom().Int64()))
}

func TestS3Sweep(t *testing.T) {
	any := rand.New(rand.NewSource(11))
	seen := map[api.Errno]int{}
	for range 20000 {
		size := []int{4, 40, 1 << 10, 1 << 15, 1 << 16, most}[any.Intn(6)]
		down := 1 + any.Intn(size)
		p, r := inLowest(1+any.Intn(down), down), inLowest(1+any.Intn(size), 1+any.Intn(size))
		want, werr := slowLost(p, r)
		holdLost(t, p, r, want, werr)
		seen[werr]++
	}
	for _, err := range []api.Errno{api.OK, api.ErrRange, api.ErrMuch} {
		if seen[err] < 1000 {
			t.Errorf("too few of a kind are tried: %v", seen)
		}
	}
}
