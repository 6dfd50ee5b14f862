package dist_test

import (
	"fmt"
	"math/big"
	"math/rand"
	"slices"
	"testing"

	"hushhouse/api"
	"hushhouse/dist"
)

// chances is a distribution as the document speaks of it: each outcome's chance, exactly.
type chances map[string]*big.Rat

func exact(d api.Dist) chances {
	all := new(big.Int)
	for _, x := range d {
		all.Add(all, big.NewInt(int64(x.Weight)))
	}
	out := chances{}
	for _, x := range d {
		out.add(x.Out, new(big.Rat).SetFrac(big.NewInt(int64(x.Weight)), all))
	}
	return out
}

func (c chances) add(out []int, chance *big.Rat) {
	key := fmt.Sprint(out)
	if c[key] == nil {
		c[key] = new(big.Rat)
	}
	c[key].Add(c[key], chance)
}

func (c chances) of(key string) *big.Rat {
	if c[key] == nil {
		return new(big.Rat)
	}
	return c[key]
}

// hold tells whether a distribution is right and has just these chances.
func hold(t *testing.T, name string, got api.Dist, err api.Errno, want chances) {
	t.Helper()
	if err != api.OK || dist.Wrong(got) != api.OK || len(got) != len(want) {
		t.Fatalf("%s: %v, %d comes, not %v", name, got, err, want)
	}
	for key, r := range exact(got) {
		if r.Cmp(want.of(key)) != 0 {
			t.Fatalf("%s: %v comes, not %v", name, got, want)
		}
	}
}

// some is a distribution by lot of at most five short outcomes.
func some(rnd *rand.Rand, weight int) api.Dist {
	parts := []api.Part{{Out: []int{rnd.Intn(3)}, Weight: 1 + rnd.Intn(weight)}}
	for range rnd.Intn(5) {
		out := make([]int, rnd.Intn(3))
		for i := range out {
			out[i] = rnd.Intn(3) - 1
		}
		parts = append(parts, api.Part{Out: out, Weight: rnd.Intn(weight)})
	}
	d, err := dist.Make(parts)
	if err != api.OK {
		panic(err)
	}
	return d
}

func TestSweepOfOne(t *testing.T) {
	rnd := rand.New(rand.NewSource(2))
	for range 2000 {
		d := some(rnd, 30)
		has := exact(d)
		half := func(x []int) []int { return x[:len(x)/2] }
		want := chances{}
		for _, x := range d {
			want.add(half(x.Out), has.of(fmt.Sprint(x.Out)))
		}
		got, err := dist.Map(d, half)
		hold(t, "Map", got, err, want)
		want, all := chances{}, new(big.Rat)
		for _, x := range d {
			if len(x.Out) == 1 {
				all.Add(all, has.of(fmt.Sprint(x.Out)))
			}
		}
		for _, x := range d {
			if len(x.Out) == 1 {
				want.add(x.Out, new(big.Rat).Quo(has.of(fmt.Sprint(x.Out)), all))
			}
		}
		got, err = dist.Keep(d, func(x []int) bool { return len(x) == 1 })
		hold(t, "Keep", got, err, want)
		mean := new(big.Rat)
		for _, x := range got {
			mean.Add(mean, new(big.Rat).Mul(big.NewRat(int64(x.Out[0]), 1), want.of(fmt.Sprint(x.Out))))
		}
		up, down, err := dist.Mean(got, 0)
		if err != api.OK || mean.Num().Int64() != int64(up) || mean.Denom().Int64() != int64(down) {
			t.Fatalf("Mean of %v: %d / %d, %d comes, not %v", got, up, down, err, mean)
		}
	}
}

func TestSweepOfTwo(t *testing.T) {
	rnd := rand.New(rand.NewSource(3))
	for range 2000 {
		a, b := some(rnd, 30), some(rnd, 30)
		want := chances{}
		for _, x := range a {
			for _, y := range b {
				want.add(slices.Concat(x.Out, y.Out), new(big.Rat).Mul(exact(a).of(fmt.Sprint(x.Out)), exact(b).of(fmt.Sprint(y.Out))))
			}
		}
		got, err := dist.Both(a, b)
		hold(t, "Both", got, err, want)
		thens := [3]api.Dist{some(rnd, 20), some(rnd, 20), some(rnd, 20)}
		want = chances{}
		for _, x := range a {
			for key, r := range exact(thens[len(x.Out)]) {
				if want[key] == nil {
					want[key] = new(big.Rat)
				}
				want[key].Add(want[key], new(big.Rat).Mul(r, exact(a).of(fmt.Sprint(x.Out))))
			}
		}
		got, err = dist.Bind(a, func(x []int) (api.Dist, api.Errno) { return thens[len(x)], api.OK })
		hold(t, "Bind", got, err, want)
	}
}

// ratioOf holds a fraction, or the errno in its place, against what it is exactly.
func ratioOf(t *testing.T, name string, got api.Ratio, err api.Errno, want *big.Rat) {
	t.Helper()
	most := big.NewInt(api.MaxPart)
	if want.Num().Cmp(most) > 0 || want.Denom().Cmp(most) > 0 {
		if err != api.ErrMuch || got != (api.Ratio{}) {
			t.Fatalf("%s: %v, %d comes for %v", name, got, err, want)
		}
		return
	}
	if err != api.OK || int64(got.Up) != want.Num().Int64() || int64(got.Down) != want.Denom().Int64() {
		t.Fatalf("%s: %v, %d comes for %v", name, got, err, want)
	}
}

// near has MaxPart in all, nearly, on three outcomes; it is near others of its kind, so that what is compared differs in its last digits alone.
func near(rnd *rand.Rand, all int) api.Dist {
	third := all / 3
	x, y := third+rnd.Intn(9)-4, third+rnd.Intn(9)-4
	return api.Dist{p(x, 0), p(y, 1), p(all-x-y, 2)}
}

func TestSweepFarAndApart(t *testing.T) {
	rnd := rand.New(rand.NewSource(4))
	fine, much := 0, 0
	for i := range 4000 {
		a, b := some(rnd, 1000), some(rnd, 1000)
		if i%2 == 1 {
			a, b = near(rnd, api.MaxPart-rnd.Intn(9)), near(rnd, api.MaxPart-rnd.Intn(9))
			if dist.Wrong(a) != api.OK || dist.Wrong(b) != api.OK {
				continue
			}
		}
		far, apart := farExactly(exact(a), exact(b)), apartExactly(exact(a), exact(b))
		got, err := dist.Apart(a, b)
		ratioOf(t, "Apart", got, err, apart)
		got, err = dist.Far(a, b)
		if far == nil {
			if err != api.ErrNone || got != (api.Ratio{}) {
				t.Fatalf("Far of %v and %v: %v, %d comes", a, b, got, err)
			}
			continue
		}
		ratioOf(t, "Far", got, err, far)
		if err == api.OK {
			fine++
		} else {
			much++
		}
	}
	if fine < 100 || much < 100 {
		t.Errorf("too few of a kind are tried: %d, %d", fine, much)
	}
}

// farExactly is nil, if one has what the other has not.
func farExactly(a, b chances) *big.Rat {
	best := big.NewRat(1, 1)
	if len(a) != len(b) {
		return nil
	}
	for key, x := range a {
		y := b[key]
		if y == nil {
			return nil
		}
		for _, q := range []*big.Rat{new(big.Rat).Quo(x, y), new(big.Rat).Quo(y, x)} {
			if q.Cmp(best) > 0 {
				best = q
			}
		}
	}
	return best
}

func apartExactly(a, b chances) *big.Rat {
	sum := new(big.Rat)
	for key, x := range a {
		if more := new(big.Rat).Sub(x, b.of(key)); more.Sign() > 0 {
			sum.Add(sum, more)
		}
	}
	return sum
}
