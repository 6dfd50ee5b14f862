package crowd_test

import (
	"math/big"
	"math/rand"
	"slices"
	"testing"

	"hushhouse/api"
	"hushhouse/crowd"
	"hushhouse/dist"
	"hushhouse/noise"
	"hushhouse/ratio"
)

func TestL2Examples(t *testing.T) {
	for _, x := range []struct {
		r      api.Ratio
		kinds  int
		truths []int
		want   api.Dist
	}{
		{f(2, 1), 2, []int{0, 1, 1}, api.Dist{{Out: []int{0, 3}, Weight: 4}, {Out: []int{1, 2}, Weight: 12}, {Out: []int{2, 1}, Weight: 9}, {Out: []int{3, 0}, Weight: 2}}},
		{f(2, 1), 2, []int{0}, api.Dist{{Out: []int{0, 1}, Weight: 1}, {Out: []int{1, 0}, Weight: 2}}},
		{f(2, 1), 2, []int{1}, api.Dist{{Out: []int{0, 1}, Weight: 2}, {Out: []int{1, 0}, Weight: 1}}},
		{f(3, 2), 2, []int{0, 0}, api.Dist{{Out: []int{0, 2}, Weight: 4}, {Out: []int{1, 1}, Weight: 12}, {Out: []int{2, 0}, Weight: 9}}},
		{f(3, 1), 2, []int{0, 1}, api.Dist{{Out: []int{0, 2}, Weight: 3}, {Out: []int{1, 1}, Weight: 10}, {Out: []int{2, 0}, Weight: 3}}},
		{f(1, 1), 2, []int{0, 0}, api.Dist{{Out: []int{0, 2}, Weight: 1}, {Out: []int{1, 1}, Weight: 2}, {Out: []int{2, 0}, Weight: 1}}},
		{f(2, 1), 3, []int{1}, api.Dist{{Out: []int{0, 0, 1}, Weight: 1}, {Out: []int{0, 1, 0}, Weight: 2}, {Out: []int{1, 0, 0}, Weight: 1}}},
		{f(4, 3), 1, []int{0, 0, 0}, api.Dist{{Out: []int{3}, Weight: 1}}},
		{f(4, 3), 1, nil, api.Dist{{Out: []int{0}, Weight: 1}}},
		{f(4, 3), 3, []int{}, api.Dist{{Out: []int{0, 0, 0}, Weight: 1}}},
	} {
		holdShuffled(t, x.r, x.kinds, x.truths, x.want, api.OK)
	}
}

// slowShuffled says what L2 says by all that all people may say, one list of kinds after the other, in numbers without bounds.
func slowShuffled(r api.Ratio, kinds int, truths []int) api.Dist {
	type part struct {
		out    []int
		weight *big.Int
	}
	var parts []part
	var say func(left []int, out []int, weight *big.Int)
	say = func(left []int, out []int, weight *big.Int) {
		if len(left) > 0 {
			for kind := range kinds {
				times := r.Down
				if kind == left[0] {
					times = r.Up
				}
				more := slices.Clone(out)
				more[kind]++
				say(left[1:], more, new(big.Int).Mul(weight, big.NewInt(int64(times))))
			}
			return
		}
		for _, p := range parts {
			if slices.Equal(p.out, out) {
				p.weight.Add(p.weight, weight)
				return
			}
		}
		parts = append(parts, part{out, new(big.Int).Set(weight)})
	}
	say(truths, make([]int, kinds), big.NewInt(1))
	slices.SortFunc(parts, func(x, y part) int { return slices.Compare(x.out, y.out) })
	by := new(big.Int)
	for _, p := range parts {
		by.GCD(nil, nil, by, p.weight)
	}
	var out api.Dist
	for _, p := range parts {
		out = append(out, api.Part{Out: p.out, Weight: int(new(big.Int).Div(p.weight, by).Int64())})
	}
	return out
}

// fits tells whether all weights of all people together are not above MaxPart.
func fits(r api.Ratio, kinds, many int) bool {
	all := new(big.Int).Exp(big.NewInt(int64(r.Up+(kinds-1)*r.Down)), big.NewInt(int64(many)), nil)
	return all.Cmp(big.NewInt(most)) <= 0
}

// anyKinds are so many kinds, as if by lot.
func anyKinds(any *rand.Rand, many, kinds int) []int {
	out := make([]int, many)
	for i := range out {
		out[i] = any.Intn(kinds)
	}
	return out
}

func TestL2Sweep(t *testing.T) {
	any := rand.New(rand.NewSource(13))
	told, much := 0, 0
	for range 1500 {
		kinds, many := 1+any.Intn(api.MaxPick), any.Intn(6)
		if kinds == 2 {
			many = any.Intn(api.MaxCrowd + 1)
		}
		r, err := ratio.Make(1+any.Intn([]int{8, 40, 400}[any.Intn(3)]), 1+any.Intn(6))
		if err != api.OK || r.Up < r.Down {
			continue
		}
		truths := anyKinds(any, many, kinds)
		if !fits(r, kinds, many) {
			much++
			holdShuffled(t, r, kinds, truths, nil, api.ErrMuch)
			continue
		}
		told++
		holdShuffled(t, r, kinds, truths, slowShuffled(r, kinds, truths), api.OK)
	}
	if told < 300 || much < 100 {
		t.Errorf("too few of a kind are tried: %d, %d", told, much)
	}
}

// TestL2IsRespond holds Shuffled against what Respond says of each person, one behind the other, counted in the end.
func TestL2IsRespond(t *testing.T) {
	any := rand.New(rand.NewSource(14))
	for range 200 {
		kinds := 1 + any.Intn(4)
		truths := anyKinds(any, any.Intn(5), kinds)
		r := losses()[any.Intn(4)]
		all, err := dist.Sure(nil)
		for _, truth := range truths {
			said, _ := noise.Respond(r, kinds, truth)
			if all, err = dist.Both(all, said); err != api.OK {
				t.Fatalf("Both tells %d", err)
			}
		}
		want, err := dist.Map(all, func(said []int) []int {
			out := make([]int, kinds)
			for _, kind := range said {
				out[kind]++
			}
			return out
		})
		holdShuffled(t, r, kinds, truths, want, err)
		if err != api.OK {
			t.Errorf("Map tells %d", err)
		}
	}
}

// TestL2Outcomes: as many outcomes as may be, and more, where all weights together are not too much.
func TestL2Outcomes(t *testing.T) {
	for _, x := range []struct {
		kinds, many, outs int
		werr              api.Errno
	}{
		{8, 7, 3432, api.OK}, {8, 8, 0, api.ErrMuch}, {8, 9, 0, api.ErrMuch}, {8, 10, 0, api.ErrMuch},
		{7, 8, 3003, api.OK}, {7, 9, 0, api.ErrMuch}, {7, 10, 0, api.ErrMuch},
		{6, 10, 3003, api.OK}, {6, 11, 0, api.ErrMuch},
		{5, 12, 1820, api.OK}, {4, 12, 455, api.OK}, {3, 12, 91, api.OK}, {2, 12, 13, api.OK}, {1, 12, 1, api.OK},
	} {
		got, err := crowd.Shuffled(f(1, 1), x.kinds, make([]int, x.many))
		if err != x.werr || len(got) != x.outs {
			t.Errorf("%d people of %d kinds: %d outcomes, %d", x.many, x.kinds, len(got), err)
		}
		if err == api.OK && dist.Wrong(got) != api.OK {
			t.Errorf("%d people of %d kinds: the distribution is wrong: %d", x.many, x.kinds, dist.Wrong(got))
		}
	}
}

// TestL2Mixed: who says what is not to be seen, only how many are of each kind.
func TestL2Mixed(t *testing.T) {
	any := rand.New(rand.NewSource(15))
	for range 100 {
		kinds := 1 + any.Intn(4)
		truths := anyKinds(any, any.Intn(7), kinds)
		want, err := crowd.Shuffled(f(3, 2), kinds, truths)
		if err != api.OK {
			t.Fatalf("Shuffled of %v tells %d", truths, err)
		}
		any.Shuffle(len(truths), func(i, k int) { truths[i], truths[k] = truths[k], truths[i] })
		holdShuffled(t, f(3, 2), kinds, truths, want, api.OK)
	}
}

// TestL2NobodyIsSeen: whatever one person's kind is, nothing that is heard is more times likelier than the loss says.
func TestL2NobodyIsSeen(t *testing.T) {
	any := rand.New(rand.NewSource(16))
	tight := false
	for range 300 {
		kinds := 2 + any.Intn(3)
		truths := anyKinds(any, 1+any.Intn(5), kinds)
		r := []api.Ratio{f(1, 1), f(2, 1), f(3, 2), f(7, 2)}[any.Intn(4)]
		here, err := crowd.Shuffled(r, kinds, truths)
		truths[any.Intn(len(truths))] = any.Intn(kinds)
		there, terr := crowd.Shuffled(r, kinds, truths)
		far, ferr := dist.Far(here, there)
		order, oerr := ratio.Order(far, r)
		if err != api.OK || terr != api.OK || ferr != api.OK || oerr != api.OK || order > 0 {
			t.Fatalf("by %v, of %v: %v times likelier (%d, %d, %d, %d)", r, truths, far, err, terr, ferr, oerr)
		}
		tight = tight || order == 0 && r == f(2, 1)
	}
	if !tight {
		t.Errorf("less is lost than the loss, each time")
	}
}
