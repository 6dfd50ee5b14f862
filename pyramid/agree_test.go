package pyramid_test

import (
	"math"
	"math/big"
	"slices"
	"testing"

	"hushhouse/api"
	"hushhouse/pyramid"
)

func holdAgree(t *testing.T, ways, high int, told, want []int, wdown int, werr api.Errno) {
	t.Helper()
	if got, down, err := pyramid.Agree(ways, high, told); !slices.Equal(got, want) || down != wdown || err != werr {
		t.Errorf("Agree(%d, %d, %v) is %v, %d, %d, not %v, %d, %d", ways, high, told, got, down, err, want, wdown, werr)
	}
}

func TestY3Examples(t *testing.T) {
	for _, x := range []struct {
		ways, high, down int
		told, want       []int
	}{
		{2, 0, 1, []int{5}, []int{5}},
		{16, 0, 1, []int{-api.MaxGuess}, []int{-api.MaxGuess}},
		{2, 1, 1, []int{10, 3, 4}, []int{9, 4, 5}},
		{2, 1, 3, []int{1, 0, 0}, []int{2, 1, 1}},
		{2, 1, 3, []int{0, 1, 0}, []int{1, 2, -1}},
		{2, 1, 3, []int{-1, 0, 0}, []int{-2, -1, -1}},
		{2, 2, 1, []int{10, 3, 7, 1, 2, 3, 4}, []int{10, 3, 7, 1, 2, 3, 4}},
		{2, 2, 7, []int{11, 3, 6, 1, 1, 3, 5}, []int{72, 22, 50, 11, 11, 18, 32}},
		{3, 1, 4, []int{7, 1, 2, 3}, []int{27, 5, 9, 13}},
	} {
		holdAgree(t, x.ways, x.high, x.told, x.want, x.down, api.OK)
	}
}

// muchOf tells whether a pyramid's product is above MaxPart, by numbers without bounds.
func muchOf(p plan) bool {
	power := func(n int) *big.Int { return new(big.Int).Exp(big.NewInt(int64(p.ways)), big.NewInt(int64(n)), nil) }
	product := power(p.high)
	for h := 2; h <= p.high+1; h++ {
		product.Mul(product, new(big.Int).Sub(power(h), big.NewInt(1)))
	}
	return product.Cmp(big.NewInt(api.MaxPart)) > 0
}

// few are the pyramids that may be and whose product is not too much.
func few() []plan { return slices.DeleteFunc(plans(), muchOf) }

func TestY3Much(t *testing.T) {
	for _, p := range plans() {
		many := len(grown(p.ways, p.high))
		for _, number := range []int{0, 1, -api.MaxGuess, api.MaxGuess} {
			_, down, err := pyramid.Agree(p.ways, p.high, all(many, number))
			if muchOf(p) {
				holdAgree(t, p.ways, p.high, all(many, number), nil, 0, api.ErrMuch)
			} else if err != api.OK || down < 1 {
				t.Errorf("Agree(%d, %d, ..) is %d, %d", p.ways, p.high, down, err)
			}
		}
	}
	highest := map[int]int{}
	for _, p := range few() {
		highest[p.ways] = max(highest[p.ways], p.high)
	}
	for ways, high := range []int{2: 5, 3: 4, 4: 3, 5: 3, 6: 2, 15: 2, 16: 2} {
		if high > 0 && highest[ways] != high {
			t.Errorf("of %d ways there may be %d levels below the top, not %d", ways, highest[ways], high)
		}
	}
}

// agrees tells whether each node that has others just below it is their sum.
func agrees(nodes []node, up []int) bool {
	sums, inner := make([]int, len(nodes)), make([]int, len(nodes))
	for i, n := range nodes[1:] {
		sums[n.above] += up[i+1]
		inner[n.above]++
	}
	for i := range nodes {
		if inner[i] > 0 && up[i] != sums[i] {
			return false
		}
	}
	return true
}

// nearest tells whether no others that agree are nearer: a lowest node that moves, and all above it with it, makes nothing better, as all that they are from what was told is 0 together.
func nearest(nodes []node, high int, told, up []int, down int) bool {
	for i, n := range nodes {
		if n.level != high {
			continue
		}
		off := 0
		for k := i; k >= 0; k = nodes[k].above {
			off += up[k] - told[k]*down
		}
		if off != 0 {
			return false
		}
	}
	return true
}

func inLowestTerms(up []int, down int) bool {
	d := big.NewInt(int64(down))
	for _, x := range up {
		d.GCD(nil, nil, d, new(big.Int).Abs(big.NewInt(int64(x))))
	}
	return down > 0 && d.IsInt64() && d.Int64() == 1
}

// lists are what may be told of a pyramid: ends of the bounds, one alone that is not 0, and some as if by lot.
func lists(nodes []node) [][]int {
	many := len(nodes)
	out := [][]int{all(many, 0), all(many, 1), all(many, api.MaxGuess), all(many, -api.MaxGuess)}
	for seed := range 6 {
		out = append(out, numbers(seed, many, api.MaxGuess), numbers(seed, many, 2), numbers(seed, many, 40))
	}
	for _, i := range []int{0, many / 3, many / 2, many - 1} {
		for _, number := range []int{1, -1, api.MaxGuess, -api.MaxGuess} {
			one := all(many, 0)
			one[i] = number
			out = append(out, one)
		}
	}
	swing, steep := make([]int, many), make([]int, many)
	for i, n := range nodes {
		swing[i] = api.MaxGuess * (1 - 2*(n.level%2))
		steep[i] = api.MaxGuess * (1 - 2*(i%2))
	}
	return append(out, swing, steep)
}

// TestY3Sweep: what agrees, is nearest and in lowest terms is one list of fractions alone, and that one comes.
func TestY3Sweep(t *testing.T) {
	for _, p := range few() {
		nodes := grown(p.ways, p.high)
		for _, told := range lists(nodes) {
			up, down, err := pyramid.Agree(p.ways, p.high, told)
			if err != api.OK || len(up) != len(nodes) {
				t.Fatalf("Agree(%d, %d, %v) is %v, %d, %d", p.ways, p.high, told, up, down, err)
			}
			if !agrees(nodes, up) || !nearest(nodes, p.high, told, up, down) || !inLowestTerms(up, down) {
				t.Errorf("Agree(%d, %d, %v) is %v, %d", p.ways, p.high, told, up, down)
			}
		}
	}
}

// slowAgree are the counts that agree as the document says that they are reckoned, in fractions without bounds.
func slowAgree(p plan, nodes []node, told []int) []*big.Rat {
	power := func(n int) int64 {
		return new(big.Int).Exp(big.NewInt(int64(p.ways)), big.NewInt(int64(n)), nil).Int64()
	}
	lift, together, out := make([]*big.Rat, len(nodes)), make([]*big.Rat, len(nodes)), make([]*big.Rat, len(nodes))
	for i := range nodes {
		together[i] = new(big.Rat)
	}
	for i, n := range slices.Backward(nodes) {
		h := p.high - n.level
		lift[i] = big.NewRat(int64(told[i]), 1)
		if h > 0 {
			own := new(big.Rat).Mul(big.NewRat(power(h+1)-power(h), power(h+1)-1), lift[i])
			lift[i] = own.Add(own, new(big.Rat).Mul(big.NewRat(power(h)-1, power(h+1)-1), together[i]))
		}
		if i > 0 {
			together[n.above].Add(together[n.above], lift[i])
		}
	}
	out[0] = lift[0]
	for i, n := range nodes[1:] {
		more := new(big.Rat).Sub(out[n.above], together[n.above])
		out[i+1] = new(big.Rat).Add(lift[i+1], more.Mul(more, big.NewRat(1, int64(p.ways))))
	}
	return out
}

func TestY3AsTheDocumentReckons(t *testing.T) {
	for _, p := range few() {
		nodes := grown(p.ways, p.high)
		for seed := range 4 {
			told := numbers(100+seed, len(nodes), api.MaxGuess>>(4*seed))
			up, down, err := pyramid.Agree(p.ways, p.high, told)
			if err != api.OK {
				t.Fatalf("Agree(%d, %d, %v) is %d", p.ways, p.high, told, err)
			}
			for i, want := range slowAgree(p, nodes, told) {
				if big.NewRat(int64(up[i]), int64(down)).Cmp(want) != 0 {
					t.Fatalf("Agree(%d, %d, %v): the node %d is %d / %d, not %v", p.ways, p.high, told, i, up[i], down, want)
				}
			}
		}
	}
}

// TestY3NoneIsNearer tries others that agree, all in some reach, of small pyramids.
func TestY3NoneIsNearer(t *testing.T) {
	for _, p := range []plan{{2, 1}, {3, 1}, {2, 2}} {
		nodes := grown(p.ways, p.high)
		many := ofLevel(nodes, p.high)
		for seed := range 5 {
			told := numbers(seed, len(nodes), 3)
			up, down, _ := pyramid.Agree(p.ways, p.high, told)
			far := func(other []int) int {
				sum := 0
				for i, x := range other {
					sum += (x - told[i]*down) * (x - told[i]*down)
				}
				return sum
			}
			best := far(up)
			moves := make([]int, many)
			for k := range int(math.Pow(5, float64(many))) {
				for i := range moves {
					moves[i], k = k%5-2, k/5
				}
				other := slowSums(nodes, moves)
				moved := slices.ContainsFunc(moves, func(x int) bool { return x != 0 })
				for i := range other {
					other[i] += up[i]
				}
				if far(other) < best || far(other) == best && moved {
					t.Fatalf("Agree(%d, %d, %v) is %v, %d: %v is as near", p.ways, p.high, told, up, down, other)
				}
			}
		}
	}
}

// TestY3WhatAgreesStays: over 1.
func TestY3WhatAgreesStays(t *testing.T) {
	for _, p := range few() {
		nodes := grown(p.ways, p.high)
		many := ofLevel(nodes, p.high)
		for _, low := range [][]int{all(many, 0), all(many, api.MaxGuess/many), all(many, -api.MaxGuess/many), numbers(9, many, api.MaxGuess/many)} {
			sums, _ := pyramid.Sums(p.ways, p.high, low)
			holdAgree(t, p.ways, p.high, sums, sums, 1, api.OK)
		}
	}
}

// TestY3Fit: just one number for each node, told ahead of numbers beyond the bounds and of a product that is too much.
func TestY3Fit(t *testing.T) {
	for _, p := range plans() {
		many := len(grown(p.ways, p.high))
		for _, other := range []int{0, 1, many - 1, many + 1, 2 * many, (many - 1) / p.ways} {
			if other == many {
				continue
			}
			for _, number := range []int{0, api.MaxGuess, api.MaxGuess + 1, math.MinInt} {
				holdAgree(t, p.ways, p.high, all(other, number), nil, 0, api.ErrFit)
			}
		}
		holdAgree(t, p.ways, p.high, all(many, 1)[:many-1], nil, 0, api.ErrFit) // what lies in the spare room was not told
	}
}

// TestY3Range: one number beyond the bounds, at each place, told ahead of a product that is too much.
func TestY3Range(t *testing.T) {
	for _, p := range []plan{{2, 0}, {2, 1}, {2, 4}, {3, 3}, {16, 1}, {2, 6}, {6, 3}} {
		many := len(grown(p.ways, p.high))
		for i := range many {
			for _, number := range beyond {
				told := all(many, 1)
				told[i] = number
				holdAgree(t, p.ways, p.high, told, nil, 0, api.ErrRange)
			}
		}
	}
	holdAgree(t, 2, 1, []int{5, 1 << 17, 0}, nil, 0, api.ErrRange)
	holdAgree(t, 2, 1, []int{api.MaxGuess, -api.MaxGuess, -api.MaxGuess}, []int{0, 0, 0}, 1, api.OK)
	holdAgree(t, 2, 1, []int{api.MaxGuess, -api.MaxGuess, 0}, []int{api.MaxGuess, -api.MaxGuess, 2 * api.MaxGuess}, 3, api.OK)
}
