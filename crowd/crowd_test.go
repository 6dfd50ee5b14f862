package crowd_test

import (
	"math"
	"slices"
	"testing"

	"hushhouse/api"
	"hushhouse/crowd"
)

const most = api.MaxPart

func f(up, down int) api.Ratio { return api.Ratio{Up: up, Down: down} }

func same(x, y api.Part) bool { return x.Weight == y.Weight && slices.Equal(x.Out, y.Out) }

func holdShuffled(t *testing.T, r api.Ratio, kinds int, truths []int, want api.Dist, werr api.Errno) {
	t.Helper()
	got, err := crowd.Shuffled(r, kinds, truths)
	if !slices.EqualFunc(got, want, same) || err != werr {
		t.Errorf("Shuffled(%v, %d, %v) is %v, %d, not %v, %d", r, kinds, truths, got, err, want, werr)
	}
}

func holdGuess(t *testing.T, r api.Ratio, heard []int, want []int, over int, werr api.Errno) {
	t.Helper()
	up, down, err := crowd.Guess(r, heard)
	if !slices.Equal(up, want) || down != over || err != werr {
		t.Errorf("Guess(%v, %v) is %v, %d, %d, not %v, %d, %d", r, heard, up, down, err, want, over, werr)
	}
}

// notRight are no fractions.
func notRight() []api.Ratio {
	return []api.Ratio{{}, f(2, 2), f(4, 2), f(2, 4), f(0, 2), f(1, 0), f(-1, 1), f(1, -1), f(-2, -1), f(2, 0), f(most+1, 1), f(1, most+1), f(math.MaxInt, 1), f(math.MinInt, math.MinInt)}
}

// below are fractions that are no losses.
func below() []api.Ratio { return []api.Ratio{f(0, 1), f(1, 2), f(2, 3), f(1, most), f(most-1, most)} }

// losses are those that may be.
func losses() []api.Ratio { return []api.Ratio{f(1, 1), f(2, 1), f(3, 2), f(5, 3), f(7, 1), f(9, 8)} }

// wrongKinds are no numbers of kinds.
func wrongKinds() []int {
	return []int{0, -1, -8, api.MaxPick + 1, api.MaxPick + 2, api.MaxCells, api.MaxCells + 1, math.MaxInt, math.MinInt}
}

// outside are numbers that are no kinds.
func outside(kinds int) []int {
	return []int{-1, kinds, kinds + 1, -kinds - 1, 1 << 40, math.MaxInt, math.MinInt}
}

// first is what is told of several errors in their order.
func first(errs ...api.Errno) api.Errno {
	for _, err := range errs {
		if err != api.OK {
			return err
		}
	}
	return api.OK
}

func TestL1Kinds(t *testing.T) {
	all := slices.Concat(notRight(), below(), losses())
	for _, kinds := range wrongKinds() {
		for _, r := range all {
			for _, truths := range [][]int{nil, {0}, {-1}, {kinds}, make([]int, api.MaxCrowd), make([]int, api.MaxCrowd+1)} {
				holdShuffled(t, r, kinds, truths, nil, api.ErrRange)
			}
		}
	}
	for kinds := 1; kinds <= api.MaxPick; kinds++ {
		holdShuffled(t, f(2, 1), kinds, nil, api.Dist{{Out: make([]int, kinds), Weight: 1}}, api.OK)
	}
}

func TestL1People(t *testing.T) {
	all := slices.Concat(notRight(), below(), losses())
	for kinds := 1; kinds <= api.MaxPick; kinds++ {
		for _, many := range []int{api.MaxCrowd + 1, api.MaxCrowd + 2, 100} {
			for _, kind := range []int{0, kinds - 1, kinds, -1} { // ahead of what is wrong with the loss or a person
				for _, r := range all {
					holdShuffled(t, r, kinds, slices.Repeat([]int{kind}, many), nil, api.ErrMany)
				}
			}
		}
	}
	for many := range api.MaxCrowd + 1 {
		holdShuffled(t, f(5, 1), 1, make([]int, many), api.Dist{{Out: []int{many}, Weight: 1}}, api.OK)
	}
}

// TestL1Loss: what is wrong with the loss, ahead of what is wrong with a person.
func TestL1Loss(t *testing.T) {
	for kinds := 1; kinds <= api.MaxPick; kinds++ {
		for _, truths := range [][]int{nil, {0}, {0, kinds - 1}, {kinds}, {-1, 0}, make([]int, api.MaxCrowd)} {
			for _, r := range notRight() {
				holdShuffled(t, r, kinds, truths, nil, api.ErrForm)
			}
			for _, r := range below() {
				holdShuffled(t, r, kinds, truths, nil, api.ErrRange)
			}
		}
	}
}

// TestL1OneMuch: what one person may say is too much, whoever is there: ahead of what is wrong with a person.
func TestL1OneMuch(t *testing.T) {
	for kinds := 2; kinds <= api.MaxPick; kinds++ {
		for _, r := range []api.Ratio{f(most, 1), f(most-kinds+2, 1), f(most, most-1), f(most-1, most-2)} {
			for _, truths := range [][]int{nil, {0}, {kinds}, {0, -1}, make([]int, api.MaxCrowd)} {
				holdShuffled(t, r, kinds, truths, nil, api.ErrMuch)
			}
		}
		least := most - kinds + 1
		holdShuffled(t, f(least, 1), kinds, nil, api.Dist{{Out: make([]int, kinds), Weight: 1}}, api.OK)
		var want api.Dist
		for kind := range kinds {
			out := make([]int, kinds)
			out[kind] = 1
			want = append(api.Dist{{Out: out, Weight: 1}}, want...)
		}
		want[kinds-1].Weight = least // of kind 0, which is the last one in the order of lists
		holdShuffled(t, f(least, 1), kinds, []int{0}, want, api.OK)
	}
	holdShuffled(t, f(most, 1), 1, []int{0}, api.Dist{{Out: []int{1}, Weight: 1}}, api.OK)
	holdShuffled(t, f(most, most-1), 1, []int{0}, api.Dist{{Out: []int{1}, Weight: 1}}, api.OK)
}

// TestL1Person: a kind that is none, ahead of what all people together are.
func TestL1Person(t *testing.T) {
	for kinds := 1; kinds <= api.MaxPick; kinds++ {
		for _, bad := range outside(kinds) {
			for many := 1; many <= api.MaxCrowd; many++ {
				for at := range many {
					truths := make([]int, many)
					truths[at] = bad
					for _, r := range []api.Ratio{f(1, 1), f(2, 1), f(1<<20, 1)} {
						holdShuffled(t, r, kinds, truths, nil, api.ErrRange)
					}
				}
			}
		}
	}
}

// TestL1Much: all weights together, just at MaxPart and just beyond.
func TestL1Much(t *testing.T) {
	for _, x := range []struct {
		r           api.Ratio
		kinds, many int
		werr        api.Errno
	}{
		{f(7, 1), 2, 10, api.OK}, {f(8, 1), 2, 10, api.ErrMuch}, {f(7, 1), 2, 11, api.ErrMuch},
		{f(5, 3), 2, 10, api.OK}, {f(5, 4), 2, 10, api.ErrMuch},
		{f(31, 1), 2, 6, api.OK}, {f(32, 1), 2, 6, api.ErrMuch}, {f(31, 1), 2, 7, api.ErrMuch},
		{f(25, 1), 8, 6, api.OK}, {f(26, 1), 8, 6, api.ErrMuch}, {f(11, 3), 8, 6, api.OK}, {f(13, 3), 8, 6, api.ErrMuch},
		{f(1023, 1), 2, 3, api.OK}, {f(1024, 1), 2, 3, api.ErrMuch}, {f(1<<15-1, 1), 2, 2, api.OK}, {f(1<<15, 1), 2, 2, api.ErrMuch},
		{f(4, 1), 2, 12, api.OK}, {f(3, 2), 2, 12, api.OK}, {f(5, 1), 2, 12, api.ErrMuch}, {f(3, 1), 3, 12, api.OK}, {f(4, 1), 3, 12, api.ErrMuch},
		{f(5, 1), 1, 12, api.OK}, {f(5, 4), 1, 12, api.OK}, {f(6, 1), 1, 12, api.ErrMuch}, {f(6, 5), 1, 12, api.ErrMuch},
		{f(1<<15, 1), 1, 2, api.OK}, {f(1<<15+1, 1), 1, 2, api.ErrMuch}, {f(most, 1), 1, 2, api.ErrMuch}, {f(most, most-1), 1, 12, api.ErrMuch},
		{f(1, 1), 5, 12, api.OK}, {f(1, 1), 6, 12, api.ErrMuch}, {f(most/2+1, most/2-1), 2, 12, api.ErrMuch},
	} {
		got, err := crowd.Shuffled(x.r, x.kinds, make([]int, x.many))
		if err != x.werr || (err == api.OK) != (len(got) > 0) {
			t.Errorf("Shuffled(%v, %d, %d people) is %d, not %d, with %d outcomes", x.r, x.kinds, x.many, err, x.werr, len(got))
		}
	}
}

// TestL1Order: each error beside all that are named behind it.
func TestL1Order(t *testing.T) {
	crowds := []struct {
		truths           []int
		many, kind, much api.Errno
	}{
		{[]int{0, 1, 1}, api.OK, api.OK, api.OK},
		{[]int{0, 3, 1}, api.OK, api.ErrRange, api.OK},
		{make([]int, 12), api.OK, api.OK, api.ErrMuch},
		{append(make([]int, 11), 3), api.OK, api.ErrRange, api.ErrMuch},
		{make([]int, 13), api.ErrMany, api.OK, api.ErrMuch},
		{append(make([]int, 12), -1), api.ErrMany, api.ErrRange, api.ErrMuch},
		{nil, api.OK, api.OK, api.OK},
	}
	for kinds, kerr := range map[int]api.Errno{0: api.ErrRange, 3: api.OK, 9: api.ErrRange} {
		for r, rerr := range map[api.Ratio]api.Errno{f(2, 2): api.ErrForm, f(1, 2): api.ErrRange, f(most, 1): api.ErrMuch, f(7, 2): api.OK} {
			for _, c := range crowds {
				want := first(kerr, c.many, rerr, c.kind, c.much)
				got, err := crowd.Shuffled(r, kinds, c.truths)
				if err != want || err != api.OK && len(got) > 0 {
					t.Errorf("Shuffled(%v, %d, %v) is %v, %d, not %d", r, kinds, c.truths, got, err, want)
				}
			}
		}
	}
}
