package noise_test

import (
	"math"
	"math/big"
	"math/rand"
	"testing"

	"hushhouse/api"
	"hushhouse/noise"
)

func times(x int, n int) *big.Int {
	return new(big.Int).Exp(big.NewInt(int64(x)), big.NewInt(int64(n)), nil)
}

// slowWrong is what is wrong with a loss: tried by its divisors.
func slowWrong(r api.Ratio) api.Errno {
	if r.Up < 0 || r.Down < 1 || r.Up > most || r.Down > most {
		return api.ErrForm
	}
	if new(big.Int).GCD(nil, nil, big.NewInt(int64(r.Up)), big.NewInt(int64(r.Down))).Int64() != 1 {
		return api.ErrForm
	}
	if r.Up < r.Down {
		return api.ErrRange
	}
	return api.OK
}

// lowest divides weights by what all of them have: of numbers of any size.
func lowest(from int, weights []*big.Int) api.Dist {
	by := new(big.Int)
	for _, w := range weights {
		by.GCD(nil, nil, by, w)
	}
	var small []int
	for _, w := range weights {
		small = append(small, int(new(big.Int).Quo(w, by).Int64()))
	}
	return line(from, small...)
}

// slowHide says what N2 says, of numbers of any size, and from the far side: what is told of the number with noise that has no end, brought into low .. high.
// Of noise without an end k has the chance (u - d) over (u + d) times d over u, k times; all from k on, one way, have u over (u + d) times that.
func slowHide(r api.Ratio, low, high, number int) (api.Dist, api.Errno) {
	if err := slowWrong(r); err != api.OK {
		return nil, err
	}
	if low < -edge || high > edge || low > high || high > low+api.MaxReach {
		return nil, api.ErrRange
	}
	if low == high {
		return line(low, 1), api.OK
	}
	all := new(big.Int).Mul(big.NewInt(int64(r.Up+r.Down)), times(r.Up, high-low))
	if all.Cmp(big.NewInt(most)) > 0 {
		return nil, api.ErrMuch
	}
	if number < low {
		number = low
	}
	if number > high {
		number = high
	}
	var weights []*big.Int
	together := new(big.Int)
	for z := low; z <= high; z++ {
		k := z - number
		if k < 0 {
			k = -k
		}
		chance := new(big.Rat).SetFrac(times(r.Down, k), times(r.Up, k))
		if z == low || z == high {
			chance.Mul(chance, big.NewRat(int64(r.Up), int64(r.Up+r.Down)))
		} else {
			chance.Mul(chance, big.NewRat(int64(r.Up-r.Down), int64(r.Up+r.Down)))
		}
		chance.Mul(chance, new(big.Rat).SetInt(all))
		if !chance.IsInt() {
			panic("a weight is no whole number")
		}
		weights = append(weights, chance.Num())
		together.Add(together, chance.Num())
	}
	if together.Cmp(all) != 0 {
		panic("the weights are not all")
	}
	return lowest(low, weights), api.OK
}

func slowRespond(r api.Ratio, many, truth int) (api.Dist, api.Errno) {
	if err := slowWrong(r); err != api.OK {
		return nil, err
	}
	if many < 1 || many > api.MaxCells || truth < 0 || truth >= many {
		return nil, api.ErrRange
	}
	var weights []*big.Int
	all := new(big.Int)
	for i := range many {
		w := big.NewInt(int64(r.Down))
		if i == truth {
			w = big.NewInt(int64(r.Up))
		}
		weights = append(weights, w)
		all.Add(all, w)
	}
	if all.Cmp(big.NewInt(most)) > 0 {
		return nil, api.ErrMuch
	}
	return lowest(0, weights), api.OK
}

func anyOf[T any](r *rand.Rand, some ...T) T { return some[r.Intn(len(some))] }

// anyLoss is a loss, mostly; small ones often.
func anyLoss(r *rand.Rand) api.Ratio {
	up := 1 + r.Intn(anyOf(r, 3, 8, 40, 1000, 1<<15, most))
	down := 1 + r.Intn(up)
	if r.Intn(12) == 0 {
		down += r.Intn(40)
	}
	if r.Intn(30) == 0 {
		return anyOf(r, notRight...)
	}
	if by := int(new(big.Int).GCD(nil, nil, big.NewInt(int64(up)), big.NewInt(int64(down))).Int64()); r.Intn(20) > 0 {
		up, down = up/by, down/by
	}
	return f(up, down)
}

func TestN2Sweep(t *testing.T) {
	r := rand.New(rand.NewSource(6))
	seen := map[api.Errno]int{}
	for range 30000 {
		loss := anyLoss(r)
		low := anyOf(r, r.Intn(20)-10, r.Intn(20)-10, -edge+r.Intn(3)-1, edge-r.Intn(70))
		high := low + r.Intn(anyOf(r, 2, 4, 10, 66))
		if r.Intn(30) == 0 {
			high = low - 1 - r.Intn(3)
		}
		number := anyOf(r, low+r.Intn(12), low+r.Intn(12), high-r.Intn(5), r.Intn(100)-50, math.MinInt, math.MaxInt)
		want, werr := slowHide(loss, low, high, number)
		got, err := noise.Hide(loss, low, high, number)
		holdDist(t, "Hide", got, err, want, werr)
		seen[err]++
		if t.Failed() {
			t.Fatalf("Hide by %v of %d to %d: %d", loss, low, high, number)
		}
	}
	for _, err := range []api.Errno{api.OK, api.ErrForm, api.ErrRange, api.ErrMuch} {
		if seen[err] < 500 {
			t.Errorf("too few of a kind are tried: %v", seen)
		}
	}
}

func TestN4Sweep(t *testing.T) {
	r := rand.New(rand.NewSource(64))
	seen := map[api.Errno]int{}
	for range 6000 {
		loss := anyLoss(r)
		many := anyOf(r, 1+r.Intn(5), 1+r.Intn(40), 1+r.Intn(40), 1+r.Intn(400), 0, -r.Intn(5))
		truth := r.Intn(max(1, many))
		if r.Intn(12) == 0 {
			truth = anyOf(r, -1, many, many+1, math.MinInt)
		}
		want, werr := slowRespond(loss, many, truth)
		got, err := noise.Respond(loss, many, truth)
		holdDist(t, "Respond", got, err, want, werr)
		seen[err]++
		if t.Failed() {
			t.Fatalf("Respond by %v of %d: %d", loss, many, truth)
		}
	}
	for _, err := range []api.Errno{api.OK, api.ErrForm, api.ErrRange, api.ErrMuch} {
		if seen[err] < 100 {
			t.Errorf("too few of a kind are tried: %v", seen)
		}
	}
}
