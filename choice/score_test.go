package choice_test

import (
	"math"
	"testing"

	"hushhouse/api"
	"hushhouse/choice"
	"hushhouse/dist"
)

// p is something that may come, and its weight.
func p(weight int, out ...int) api.Part { return api.Part{Out: out, Weight: weight} }

func holdScore(t *testing.T, what string, d api.Dist, l []int, wantUp, wantDown int, werr api.Errno) {
	t.Helper()
	up, down, err := choice.Score(d, l)
	if up != wantUp || down != wantDown || err != werr {
		t.Errorf("%s: Score is %d / %d, %d, not %d / %d, %d", what, up, down, err, wantUp, wantDown, werr)
	}
}

func TestC4Score(t *testing.T) {
	for _, x := range []struct {
		name     string
		d        api.Dist
		l        []int
		up, down int
	}{
		{"one", line(1), []int{3}, 3, 1},
		{"one of two", line(1), []int{3, 9}, 3, 1},
		{"the other one of two", api.Dist{p(1, 1)}, []int{3, 9}, 9, 1},
		{"two", line(2, 1), []int{1, 0}, 2, 3},
		{"two that score alike", line(2, 1), []int{7, 7}, 7, 1},
		{"below 0", line(1, 1), []int{-1, -2}, -3, 2},
		{"nothing", line(1, 1), []int{-4, 4}, 0, 1},
		{"nought", line(3, 1), []int{0, 0}, 0, 1},
		{"in lowest terms", line(1, 2, 3), []int{1, 2, 1}, 4, 3},
		{"some of many", api.Dist{p(1, 2), p(4, 5)}, []int{100, 100, 1, 100, 100, -3, 100}, -11, 5},
		{"the greatest", line(1, most-1), []int{edge, edge}, edge, 1},
		{"far apart", line(1, most-1), []int{-edge, edge}, most - 2, 1},
		{"far apart, the other way", line(1, most-1), []int{edge, -edge}, 2 - most, 1},
		{"a large total", line(1, most-1), []int{1, 0}, 1, most},
		{"both parts large", line(1, most-1), []int{0, edge - 1}, (most - 1) * (most - 1), most},
		{"more than MaxPick", line(times(9, 1)...), []int{1, 2, 3, 4, 5, 6, 7, 8, 0}, 4, 1},
		{"further apart than MaxReach", line(1, 1), []int{0, 65}, 65, 2},
	} {
		holdScore(t, x.name, x.d, x.l, x.up, x.down, api.OK)
	}
}

// TestC4Many: as many outcomes as a distribution may have, and more scores than that.
func TestC4Many(t *testing.T) {
	l := make([]int, api.MaxOuts+10)
	for i := range l {
		l[i] = i
	}
	holdScore(t, "MaxOuts", line(times(api.MaxOuts, 1)...), l, api.MaxOuts-1, 2, api.OK)
	holdScore(t, "just so many scores", line(times(api.MaxOuts, 1)...), l[:api.MaxOuts], api.MaxOuts-1, 2, api.OK)
	holdScore(t, "the last score", api.Dist{p(1, len(l)-1)}, l, len(l)-1, 1, api.OK)
	holdScore(t, "one outcome more", line(times(api.MaxOuts+1, 1)...), l, 0, 0, api.ErrMuch)
	holdScore(t, "one score less", line(times(api.MaxOuts, 1)...), l[:api.MaxOuts-1], 0, 0, api.ErrFit)
}

func TestC4Fit(t *testing.T) {
	for _, x := range []struct {
		name string
		d    api.Dist
		l    []int
		err  api.Errno
	}{
		{"empty", api.Dist{p(1)}, []int{1, 2}, api.ErrFit},
		{"empty, of no scores", api.Dist{p(1)}, nil, api.ErrFit},
		{"of two numbers", api.Dist{p(1, 0, 0)}, []int{1, 2}, api.ErrFit},
		{"of two numbers, the second one", api.Dist{p(1, 0), p(1, 0, 1)}, []int{1, 2}, api.ErrFit},
		{"of 17 numbers", api.Dist{p(1, make([]int, 17)...)}, []int{1, 2}, api.ErrFit},
		{"below 0", api.Dist{p(1, -1)}, []int{1, 2}, api.ErrFit},
		{"far below 0", api.Dist{p(1, math.MinInt)}, []int{1, 2}, api.ErrFit},
		{"the number of scores", api.Dist{p(1, 2)}, []int{1, 2}, api.ErrFit},
		{"one below that", api.Dist{p(1, 1)}, []int{1, 2}, api.OK},
		{"one above that", api.Dist{p(1, 3)}, []int{1, 2}, api.ErrFit},
		{"far above that", api.Dist{p(1, math.MaxInt)}, []int{1, 2}, api.ErrFit},
		{"the last one of several", line(1, 1, 1), []int{1, 2}, api.ErrFit},
		{"of no scores", line(1), nil, api.ErrFit},
		{"of no scores, not nil", line(1), []int{}, api.ErrFit},
		{"of scores behind the end", line(1, 1), []int{1, 2, 3}[:1], api.ErrFit},
	} {
		_, _, err := choice.Score(x.d, x.l)
		if err != x.err {
			t.Errorf("%s: Score is %d, not %d", x.name, err, x.err)
		}
		if x.err != api.OK {
			holdScore(t, x.name, x.d, x.l, 0, 0, x.err)
		}
	}
}

// wrongs are no distributions, though each outcome is one number from 0 to 2.
var wrongs = []api.Dist{
	nil, {}, {p(0, 0)}, {p(2, 0)}, {p(-1, 0)}, {p(most+1, 0)}, {p(math.MinInt, 0)}, {p(2, 0), p(4, 2)}, {p(1, 1), p(1, 0)}, {p(1, 1), p(1, 1)},
	{p(1, 0), p(0, 1)}, {p(1, 0), p(most, 1)}, {p(1, 0), p(-1, 1)}, {p(1, 2), p(most+1, 0)},
}

func TestC4Wrong(t *testing.T) {
	for _, d := range wrongs {
		want := dist.Wrong(d)
		if want == api.OK {
			t.Fatalf("%v is not wrong", d)
		}
		holdScore(t, "wrong", d, []int{5, 6, 7}, 0, 0, want)
		holdScore(t, "wrong, of scores beyond MaxNum", d, []int{edge + 1, math.MinInt, math.MaxInt}, 0, 0, want)
		if len(d) > 0 {
			holdScore(t, "wrong, of too few scores", d, nil, 0, 0, api.ErrFit)
		} else {
			holdScore(t, "nothing, of no scores", d, nil, 0, 0, api.ErrNone)
		}
	}
}

func TestC4Range(t *testing.T) {
	for _, x := range []struct {
		name string
		d    api.Dist
		l    []int
		err  api.Errno
	}{
		{"MaxNum", line(1), []int{edge}, api.OK},
		{"one above", line(1), []int{edge + 1}, api.ErrRange},
		{"-MaxNum", line(1), []int{-edge}, api.OK},
		{"one below", line(1), []int{-edge - 1}, api.ErrRange},
		{"the greatest word", line(1), []int{math.MaxInt}, api.ErrRange},
		{"the least word", line(1), []int{math.MinInt}, api.ErrRange},
		{"the last outcome's", line(1, 1, 1), []int{0, 0, edge + 1}, api.ErrRange},
		{"the first outcome's", line(1, 1, 1), []int{-edge - 1, 0, 0}, api.ErrRange},
		{"all of them", line(1, 1), []int{math.MinInt, math.MaxInt}, api.ErrRange},
		{"no outcome's, ahead", api.Dist{p(1, 1), p(1, 3)}, []int{edge + 1, 0, -edge - 1, 0, math.MaxInt}, api.OK},
		{"no outcome's, behind", line(1, 1), []int{0, 0, math.MinInt}, api.OK},
		{"between, an outcome's", api.Dist{p(1, 1), p(1, 3)}, []int{0, 0, 0, edge + 1}, api.ErrRange},
	} {
		up, down, err := choice.Score(x.d, x.l)
		if err != x.err || err != api.OK && (up != 0 || down != 0) || err == api.OK && down < 1 {
			t.Errorf("%s: Score is %d / %d, %d, not %d", x.name, up, down, err, x.err)
		}
	}
}

// TestC4Order: what does not fit, wherever it stands, ahead of what is wrong with d, and that ahead of a score beyond MaxNum.
func TestC4Order(t *testing.T) {
	beyond := []int{edge + 1, -edge - 1, edge + 1}
	for _, x := range []struct {
		name string
		d    api.Dist
		l    []int
		err  api.Errno
	}{
		{"weight below 0, then what does not fit", api.Dist{p(-1, 0), p(1, 3)}, beyond, api.ErrFit},
		{"falling, then what does not fit", api.Dist{p(1, 1), p(1, 0), p(1)}, beyond, api.ErrFit},
		{"what does not fit has no weight", api.Dist{p(1, 0), p(0, 3)}, beyond, api.ErrFit},
		{"what does not fit is no outcome", api.Dist{p(1, 0), p(1, edge+1)}, beyond, api.ErrFit},
		{"weight below 0", api.Dist{p(1, 0), p(-1, 2)}, beyond, api.ErrRange},
		{"falling", api.Dist{p(1, 1), p(1, 0)}, beyond, api.ErrForm},
		{"twice", api.Dist{p(1, 1), p(1, 1)}, beyond, api.ErrForm},
		{"no weight", api.Dist{p(0, 1)}, beyond, api.ErrNone},
		{"nothing", nil, beyond, api.ErrNone},
		{"too much", line(1, most), beyond, api.ErrMuch},
		{"beyond MaxNum alone", line(1, 1, 1), beyond, api.ErrRange},
	} {
		holdScore(t, x.name, x.d, x.l, 0, 0, x.err)
	}
}
