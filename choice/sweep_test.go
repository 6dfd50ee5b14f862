package choice_test

import (
	"math"
	"math/big"
	"math/rand"
	"slices"
	"testing"

	"hushhouse/api"
	"hushhouse/choice"
	"hushhouse/dist"
)

func anyOf[T any](r *rand.Rand, some ...T) T { return some[r.Intn(len(some))] }

func large(x int) *big.Int { return big.NewInt(int64(x)) }

func largePower(x, n int) *big.Int { return new(big.Int).Exp(large(x), large(n), nil) }

// slowWrong says what C1 says, of numbers of any size, and tells how far each score is below the greatest.
func slowWrong(r api.Ratio, l []int) ([]int, api.Errno) {
	if r.Up < 0 || r.Down < 1 || r.Up > most || r.Down > most || new(big.Int).GCD(nil, nil, large(r.Up), large(r.Down)).Int64() != 1 {
		return nil, api.ErrForm
	}
	if r.Up < r.Down {
		return nil, api.ErrRange
	}
	if len(l) < 1 || len(l) > api.MaxPick {
		return nil, api.ErrMany
	}
	var far []int
	for _, score := range l {
		most := new(big.Int)
		for _, other := range l {
			if apart := new(big.Int).Sub(large(other), large(score)); apart.Cmp(most) > 0 {
				most = apart
			}
		}
		if large(score).CmpAbs(large(edge)) > 0 || most.Cmp(large(reach)) > 0 {
			return nil, api.ErrRange
		}
		far = append(far, int(most.Int64()))
	}
	return far, api.OK
}

// chances makes a distribution of chances of any size that are 1 together.
func chances(l []*big.Rat) api.Dist {
	down := big.NewInt(1)
	all := new(big.Rat)
	for _, c := range l {
		by := new(big.Int).GCD(nil, nil, down, c.Denom())
		down.Mul(down, new(big.Int).Quo(c.Denom(), by))
		all.Add(all, c)
	}
	if all.Cmp(big.NewRat(1, 1)) != 0 {
		panic("the chances are not 1")
	}
	var weights []int
	for _, c := range l {
		weights = append(weights, int(new(big.Int).Mul(c.Num(), new(big.Int).Quo(down, c.Denom())).Int64()))
	}
	return line(weights...)
}

func slowWeigh(r api.Ratio, l []int) (api.Dist, api.Errno) {
	far, err := slowWrong(r, l)
	if err != api.OK {
		return nil, err
	}
	w := slices.Max(far)
	all := new(big.Int)
	var weights []*big.Int
	for _, m := range far {
		weight := new(big.Int).Mul(largePower(r.Up, w-m), largePower(r.Down, m))
		weights = append(weights, weight)
		all.Add(all, weight)
	}
	if all.Cmp(large(most)) > 0 {
		return nil, api.ErrMuch
	}
	var out []*big.Rat
	for _, weight := range weights {
		out = append(out, new(big.Rat).SetFrac(weight, all))
	}
	return chances(out), api.OK
}

// allOrders are all orders of the numbers from 0 on below many: each number at each place of each order of those below it.
func allOrders(many int) [][]int {
	if many == 0 {
		return [][]int{nil}
	}
	var out [][]int
	for _, o := range allOrders(many - 1) {
		for at := range many {
			out = append(out, slices.Insert(slices.Clone(o), at, many-1))
		}
	}
	return out
}

// slowFlip says what C3 says, order by order and coin by coin.
func slowFlip(r api.Ratio, l []int) (api.Dist, api.Errno) {
	far, err := slowWrong(r, l)
	if err != api.OK {
		return nil, err
	}
	product := new(big.Int).MulRange(1, int64(len(l)))
	for _, m := range far {
		product.Mul(product, largePower(r.Up, m))
	}
	if product.Cmp(large(most)) > 0 {
		return nil, api.ErrMuch
	}
	var yes, chosen []*big.Rat
	for _, m := range far {
		yes = append(yes, new(big.Rat).SetFrac(largePower(r.Down, m), largePower(r.Up, m)))
		chosen = append(chosen, new(big.Rat))
	}
	orders := allOrders(len(l))
	one := big.NewRat(1, 1)
	for _, order := range orders {
		none := big.NewRat(1, int64(len(orders)))
		for _, i := range order {
			chosen[i].Add(chosen[i], new(big.Rat).Mul(none, yes[i]))
			none.Mul(none, new(big.Rat).Sub(one, yes[i]))
		}
	}
	return chances(chosen), api.OK
}

// anyLoss is a loss, mostly; small ones often.
func anyLoss(r *rand.Rand) api.Ratio {
	up := 1 + r.Intn(anyOf(r, 3, 3, 8, 40, 1000, 1<<15, most))
	down := 1 + r.Intn(up)
	if r.Intn(20) == 0 {
		down += r.Intn(40)
	}
	if r.Intn(40) == 0 {
		return anyOf(r, notRight...)
	}
	if by := int(new(big.Int).GCD(nil, nil, large(up), large(down)).Int64()); r.Intn(30) > 0 {
		up, down = up/by, down/by
	}
	return f(up, down)
}

// anyScores are scores, mostly, that are not far from each other.
func anyScores(r *rand.Rand, many int) []int {
	l := make([]int, many)
	from := anyOf(r, 0, -3, -edge, edge-5, r.Intn(1000))
	wide := anyOf(r, 1, 2, 3, 3, 6, 30, 66)
	for i := range l {
		l[i] = from + r.Intn(wide)
	}
	if many > 0 && r.Intn(40) == 0 {
		l[r.Intn(many)] = anyOf(r, edge+1, -edge-1, math.MinInt, math.MaxInt, l[0]+65, l[0]+64)
	}
	return l
}

func sweep(t *testing.T, c chooser, slow func(api.Ratio, []int) (api.Dist, api.Errno), tries int, many func(*rand.Rand) int) {
	r := rand.New(rand.NewSource(7))
	seen := map[api.Errno]int{}
	for range tries {
		loss, l := anyLoss(r), anyScores(r, many(r))
		want, werr := slow(loss, l)
		got, err := c.do(loss, l)
		holdDist(t, c.name, got, err, want, werr)
		seen[err]++
		if t.Failed() {
			t.Fatalf("%s by %v of %v", c.name, loss, l)
		}
	}
	for _, err := range []api.Errno{api.OK, api.ErrForm, api.ErrRange, api.ErrMany, api.ErrMuch} {
		if seen[err] < tries/100 {
			t.Errorf("too few of a kind are tried: %v", seen)
		}
	}
}

func TestC2Sweep(t *testing.T) {
	sweep(t, choosers()[0], slowWeigh, 20000, func(r *rand.Rand) int { return r.Intn(10) })
}

func TestC3Sweep(t *testing.T) {
	sweep(t, choosers()[1], slowFlip, 4000, func(r *rand.Rand) int { return anyOf(r, 1, 2, 2, 2, 3, 3, 3, 4, 5, 0, 9) })
}

func TestC3SweepOfMany(t *testing.T) {
	for _, x := range []struct {
		r api.Ratio
		l []int
	}{
		{f(2, 1), []int{3, 1, 2, 2, 3, 3}},
		{f(3, 2), []int{0, 4, 3, 4, 4, 3, 4}},
		{f(5, 4), []int{0, 0, -1, 0, -2, 0, 0, 0}},
		{f(7, 5), []int{-9, -8, -9, -8, -8, -8, -8, -9}},
		{f(2, 1), []int{2, 0, 1, 2, 2, 1, 2, 2}},
	} {
		want, werr := slowFlip(x.r, x.l)
		got, err := choice.Flip(x.r, x.l)
		holdDist(t, "Flip", got, err, want, werr)
		if err != api.OK {
			t.Errorf("Flip by %v of %v is %d", x.r, x.l, err)
		}
	}
}

// TestC2C3Moved: nothing hangs on where the scores lie, or on the order in which they are handed in, but the numbers.
func TestC2C3Moved(t *testing.T) {
	r := rand.New(rand.NewSource(77))
	for range 300 {
		many := 1 + r.Intn(5)
		loss, l := f(2+r.Intn(3), 1), make([]int, many)
		for i := range l {
			l[i] = r.Intn(4)
		}
		to := r.Perm(many)
		from := anyOf(r, -edge-slices.Min(l), edge-slices.Max(l), 1-r.Intn(100))
		moved := make([]int, many)
		for i, k := range to {
			moved[k] = l[i] + from
		}
		for _, c := range choosers() {
			a, err := c.do(loss, l)
			want, _ := dist.Map(a, func(x []int) []int { return []int{to[x[0]]} })
			got, gerr := c.do(loss, moved)
			holdDist(t, c.name, got, gerr, want, err)
		}
	}
}

// TestC2C3NobodyIsSeen: if no score moves by more than 1, no choice becomes more than r times r likelier; and the coins choose no worse than the weights.
func TestC2C3NobodyIsSeen(t *testing.T) {
	r := rand.New(rand.NewSource(777))
	for range 2000 {
		l := make([]int, 1+r.Intn(5))
		near := make([]int, len(l))
		for i := range l {
			l[i] = r.Intn(4)
			near[i] = l[i] + r.Intn(3) - 1
		}
		loss := anyOf(r, f(2, 1), f(3, 2), f(4, 3), f(1, 1))
		var on []*big.Rat
		for _, c := range choosers() {
			a, err := c.do(loss, l)
			b, other := c.do(loss, near)
			if err != api.OK || other != api.OK {
				continue
			}
			far, _ := dist.Far(a, b)
			bound := big.NewRat(int64(loss.Up*loss.Up), int64(loss.Down*loss.Down))
			if big.NewRat(int64(far.Up), int64(far.Down)).Cmp(bound) > 0 {
				t.Fatalf("%s by %v of %v and %v: %v times likelier", c.name, loss, l, near, far)
			}
			up, down, _ := choice.Score(a, l)
			on = append(on, big.NewRat(int64(up), int64(down)))
		}
		if len(on) == 2 && on[0].Cmp(on[1]) > 0 {
			t.Fatalf("by %v of %v the coins choose %v, the weights %v", loss, l, on[1], on[0])
		}
	}
}

// TestC4Sweep holds Score against each score times its chance.
func TestC4Sweep(t *testing.T) {
	r := rand.New(rand.NewSource(74))
	for range 3000 {
		l := make([]int, 1+r.Intn(12))
		parts := make([]api.Part, len(l))
		for i := range l {
			l[i] = anyOf(r, r.Intn(20)-10, edge, -edge, edge-r.Intn(1000), r.Intn(edge))
			parts[i] = p(r.Intn(anyOf(r, 2, 9, 1<<20)), i)
		}
		d, err := dist.Make(parts)
		if err != api.OK {
			continue
		}
		want := new(big.Rat)
		for _, x := range d {
			c, _ := dist.Chance(d, x.Out)
			want.Add(want, new(big.Rat).Mul(big.NewRat(int64(c.Up), int64(c.Down)), new(big.Rat).SetInt64(int64(l[x.Out[0]]))))
		}
		holdScore(t, "sweep", d, l, int(want.Num().Int64()), int(want.Denom().Int64()), api.OK)
	}
}
