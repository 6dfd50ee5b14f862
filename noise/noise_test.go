package noise_test

import (
	"math"
	"reflect"
	"slices"
	"testing"

	"hushhouse/api"
	"hushhouse/dist"
	"hushhouse/noise"
	"hushhouse/ratio"
)

const (
	most = api.MaxPart
	edge = api.MaxNum
)

func f(up, down int) api.Ratio { return api.Ratio{Up: up, Down: down} }

// line is a distribution of the numbers from one on, with these weights; what has none is left out.
func line(from int, weights ...int) api.Dist {
	var out api.Dist
	for i, w := range weights {
		if w > 0 {
			out = append(out, api.Part{Out: []int{from + i}, Weight: w})
		}
	}
	return out
}

// notRight are no fractions.
var notRight = []api.Ratio{
	{}, f(1, 0), f(0, 0), f(2, 2), f(4, 2), f(2, 4), f(0, 2), f(-1, 1), f(1, -1), f(-2, -1), f(most+1, 1), f(1, most+1),
	f(most, most), f(most, 2), f(math.MaxInt, 1), f(math.MinInt, 1), f(1, math.MinInt), f(math.MaxInt, math.MaxInt),
}

// below are fractions less than 1.
var below = []api.Ratio{f(0, 1), f(1, 2), f(2, 3), f(1, most), f(most-1, most)}

// losses are fractions of at least 1.
var losses = []api.Ratio{f(1, 1), f(2, 1), f(3, 2), f(3, 1), f(7, 5), f(101, 100), f(most, most-1), f(most, 1)}

func holdDist(t *testing.T, what string, got api.Dist, err api.Errno, want api.Dist, werr api.Errno) {
	t.Helper()
	if err != werr || len(got) != len(want) || len(want) > 0 && !reflect.DeepEqual(got, want) {
		t.Errorf("%s is %v, %d, not %v, %d", what, got, err, want, werr)
	}
	if err == api.OK && dist.Wrong(got) != api.OK {
		t.Errorf("%s is %v: that is no distribution", what, got)
	}
}

func holdRatio(t *testing.T, what string, got api.Ratio, err api.Errno, want api.Ratio, werr api.Errno) {
	t.Helper()
	if got != want || err != werr {
		t.Errorf("%s is %v, %d, not %v, %d", what, got, err, want, werr)
	}
}

func TestN1Losses(t *testing.T) {
	try := func(r api.Ratio, want api.Errno) {
		t.Helper()
		// All else is wrong as well, where it can be: what is wrong with r is told first.
		for _, low := range []int{0, 1, 2, math.MaxInt} {
			got, err := noise.Hide(r, low, 1, 0)
			holdDist(t, "Hide", got, err, nil, want)
		}
		for _, moves := range []int{0, 1, 31, -1, api.MaxOuts + 1} {
			got, err := noise.Lost(r, moves)
			holdRatio(t, "Lost", got, err, api.Ratio{}, want)
		}
		for _, many := range []int{1, 2, api.MaxCells, 0, -1, api.MaxCells + 1} {
			for _, truth := range []int{0, 1, -1, many} {
				got, err := noise.Respond(r, many, truth)
				holdDist(t, "Respond", got, err, nil, want)
			}
		}
	}
	for _, r := range notRight {
		try(r, api.ErrForm)
	}
	for _, r := range below {
		try(r, api.ErrRange)
	}
	for _, r := range losses {
		if _, err := noise.Hide(r, 0, 0, 0); err != api.OK {
			t.Errorf("Hide by %v is %d", r, err)
		}
		if _, err := noise.Lost(r, 0); err != api.OK {
			t.Errorf("Lost of %v is %d", r, err)
		}
		if _, err := noise.Respond(r, 1, 0); err != api.OK {
			t.Errorf("Respond by %v is %d", r, err)
		}
	}
}

func TestN2Hide(t *testing.T) {
	for _, x := range []struct {
		r                 api.Ratio
		low, high, number int
		want              api.Dist
	}{
		{f(2, 1), 0, 3, 0, line(0, 8, 2, 1, 1)},
		{f(2, 1), 0, 3, 1, line(0, 2, 2, 1, 1)},
		{f(2, 1), 0, 3, 2, line(0, 1, 1, 2, 2)},
		{f(2, 1), 0, 3, 3, line(0, 1, 1, 2, 8)},
		{f(3, 2), 0, 2, 0, line(0, 9, 2, 4)},
		{f(3, 2), 0, 2, 1, line(0, 2, 1, 2)},
		{f(3, 2), 0, 2, 2, line(0, 4, 2, 9)},
		{f(3, 1), -1, 1, 0, line(-1, 1, 2, 1)},
		{f(2, 1), 0, 1, 0, line(0, 2, 1)},
		{f(2, 1), 0, 1, 1, line(0, 1, 2)},
		{f(7, 5), -8, -7, -8, line(-8, 7, 5)},
		{f(1, 1), 0, 1, 0, line(0, 1, 1)},
		{f(1, 1), 0, 3, 2, line(0, 1, 0, 0, 1)},
		{f(2, 1), 4, 4, 4, line(4, 1)},
		{f(1, 1), 0, 0, 0, line(0, 1)},
	} {
		got, err := noise.Hide(x.r, x.low, x.high, x.number)
		holdDist(t, "Hide", got, err, x.want, api.OK)
	}
}

// TestN2Brought: a number that is not from low to high is told as the end that it lies beyond.
func TestN2Brought(t *testing.T) {
	for _, r := range []api.Ratio{f(1, 1), f(2, 1), f(4, 3)} {
		for _, x := range [][2]int{{0, 3}, {-2, 2}, {4, 4}, {-edge, 3 - edge}, {edge - 1, edge}} {
			low, high := x[0], x[1]
			first, _ := noise.Hide(r, low, high, low)
			last, _ := noise.Hide(r, low, high, high)
			for _, number := range []int{low - 1, low - 2, -edge - 1, math.MinInt} {
				got, err := noise.Hide(r, low, high, number)
				holdDist(t, "Hide of what is below", got, err, first, api.OK)
			}
			for _, number := range []int{high + 1, high + 2, edge + 1, math.MaxInt} {
				got, err := noise.Hide(r, low, high, number)
				holdDist(t, "Hide of what is above", got, err, last, api.OK)
			}
		}
	}
}

func TestN2Range(t *testing.T) {
	for _, x := range []struct {
		low, high int
		err       api.Errno
	}{
		{1, 0, api.ErrRange},
		{edge, -edge, api.ErrRange},
		{math.MaxInt, math.MinInt, api.ErrRange},
		{math.MinInt, math.MaxInt, api.ErrRange}, // how far that is doesn't fit into a word
		{math.MinInt, math.MinInt, api.ErrRange},
		{math.MaxInt, math.MaxInt, api.ErrRange},
		{-edge, edge, api.ErrRange},
		{-edge, -edge, api.OK},
		{-edge - 1, -edge - 1, api.ErrRange},
		{-edge - 1, -edge, api.ErrRange},
		{-edge, 1 - edge, api.OK},
		{edge, edge, api.OK},
		{edge + 1, edge + 1, api.ErrRange},
		{edge, edge + 1, api.ErrRange},
		{edge - 1, edge, api.OK},
		{0, api.MaxReach, api.OK},
		{0, api.MaxReach + 1, api.ErrRange},
		{-edge, api.MaxReach - edge, api.OK},
		{-edge, api.MaxReach + 1 - edge, api.ErrRange},
		{edge - api.MaxReach, edge, api.OK},
		{edge - api.MaxReach - 1, edge, api.ErrRange},
		{-api.MaxReach / 2, api.MaxReach / 2, api.OK},
		{-api.MaxReach / 2, api.MaxReach/2 + 1, api.ErrRange},
	} {
		want := api.Dist(nil)
		if x.err == api.OK {
			want = line(x.low, 1)
		}
		if x.err == api.OK && x.low < x.high {
			want = append(want, line(x.high, 1)...)
		}
		for _, number := range []int{0, x.low, x.high, 7 - edge} {
			got, err := noise.Hide(f(1, 1), x.low, x.high, number)
			holdDist(t, "Hide", got, err, want, x.err)
		}
	}
}

// TestN2Much: u + d times u, as often as high is above low, as near to MaxPart as it comes, on either side (no loss brings it just there), and far beyond.
func TestN2Much(t *testing.T) {
	for _, x := range []struct {
		r     api.Ratio
		reach int
		err   api.Errno
	}{
		{f(25487, 16642), 1, api.OK},    // 2^30 - 1
		{f(32767, 2), 1, api.OK},        // 2^30 - 1
		{f(32513, 512), 1, api.ErrMuch}, // 2^30 + 1
		{f(905, 406), 2, api.OK},        // 2^30 - 49
		{f(905, 407), 2, api.ErrMuch},
		{f(821, 772), 2, api.ErrMuch},
		{f(172, 39), 3, api.OK},
		{f(172, 41), 3, api.ErrMuch},
		{f(2, 1), 28, api.OK}, // 3 times 2^28
		{f(2, 1), 29, api.ErrMuch},
		{f(3, 1), 17, api.OK}, // 4 times 3^17
		{f(3, 1), 18, api.ErrMuch},
		{f(1<<15, 1), 1, api.ErrMuch},
		{f(1, 1), api.MaxReach, api.OK},
		{f(2, 1), api.MaxReach, api.ErrMuch}, // 3 times 2^64: the last word of it is 0
		{f(4, 1), 32, api.ErrMuch},           // 5 times 2^64
		{f(1<<16, 1), 4, api.ErrMuch},        // 2^16 + 1 times 2^64
		{f(1<<16, 1), api.MaxReach, api.ErrMuch},
		{f(most, 1), 1, api.ErrMuch},      // above 2^60
		{f(most, most-1), 1, api.ErrMuch}, // u + d alone is above 2^30
		{f(most, most-1), 2, api.ErrMuch}, // above 2^64
		{f(most, most-1), api.MaxReach, api.ErrMuch},
		{f(most-1, most-2), api.MaxReach, api.ErrMuch},
		{f(most, most-1), 0, api.OK}, // nothing is reckoned of one number alone
		{f(most, 1), 0, api.OK},
	} {
		for _, low := range []int{0, -5, -edge, edge - api.MaxReach} {
			for _, number := range []int{low - 1, low, low + x.reach/2, low + x.reach, math.MaxInt} {
				got, err := noise.Hide(x.r, low, low+x.reach, number)
				if err != x.err || (err == api.OK) != (len(got) > 0) {
					t.Errorf("Hide by %v of %d to %d is %v, %d, not %d", x.r, low, low+x.reach, got, err, x.err)
				}
			}
		}
	}
}

// TestN2Order: r, then low and high, then what is too much.
func TestN2Order(t *testing.T) {
	for _, x := range []struct {
		r         api.Ratio
		low, high int
		err       api.Errno
	}{
		{f(2, 2), 1, 0, api.ErrForm},
		{f(2*most, most), 0, 64, api.ErrForm},
		{f(2, 4), 0, 1, api.ErrForm}, // not right, and less than 1
		{f(1, 2), 1, 0, api.ErrRange},
		{f(2, 1), 0, 65, api.ErrRange}, // too much as well
		{f(most, 1), edge, edge + 1, api.ErrRange},
		{f(most, 1), 0, 1, api.ErrMuch},
	} {
		got, err := noise.Hide(x.r, x.low, x.high, 0)
		holdDist(t, "Hide", got, err, nil, x.err)
		all, err := noise.HideAll(x.r, x.low, x.high, []int{0})
		holdAll(t, "HideAll", all, err, nil, x.err)
		all, err = noise.HideAll(x.r, x.low, x.high, []int{5, math.MinInt, 0})
		holdAll(t, "HideAll", all, err, nil, x.err)
		for _, none := range [][]int{nil, {}} {
			all, err = noise.HideAll(x.r, x.low, x.high, none)
			holdAll(t, "HideAll of none", all, err, nil, api.OK)
		}
	}
}

func holdAll(t *testing.T, what string, got []api.Dist, err api.Errno, want []api.Dist, werr api.Errno) {
	t.Helper()
	if err != werr || len(got) != len(want) || len(want) > 0 && !reflect.DeepEqual(got, want) {
		t.Errorf("%s is %v, %d, not %v, %d", what, got, err, want, werr)
	}
}

func TestN2HideAll(t *testing.T) {
	a, b := line(0, 2, 1), line(0, 1, 2)
	for _, x := range []struct {
		numbers []int
		want    []api.Dist
	}{
		{nil, nil},
		{[]int{}, nil},
		{[]int{0}, []api.Dist{a}},
		{[]int{0, 1, 7}, []api.Dist{a, b, b}},
		{[]int{1, 0, -3, 1, 1}, []api.Dist{b, a, a, b, b}},
		{[]int{math.MaxInt, math.MinInt}, []api.Dist{b, a}},
	} {
		got, err := noise.HideAll(f(2, 1), 0, 1, x.numbers)
		holdAll(t, "HideAll", got, err, x.want, api.OK)
	}
	got, err := noise.HideAll(f(2, 1), 4, 4, []int{9, 4, -9})
	holdAll(t, "HideAll of low = high", got, err, []api.Dist{line(4, 1), line(4, 1), line(4, 1)}, api.OK)
}

// TestN2HideAllEach: what is told of each number is what Hide tells of it, wherever it stands and whatever stands beside it.
func TestN2HideAllEach(t *testing.T) {
	numbers := []int{3, -70, 0, 2, 1, 70, 3, 2, -1, 4, 0, 1, math.MinInt, math.MaxInt}
	for _, r := range append(slices.Concat(losses, below), notRight...) {
		for _, x := range [][2]int{{0, 3}, {-1, 1}, {2, 2}, {0, 0}, {0, 1}, {1, 0}, {0, 65}, {-edge, 64 - edge}, {edge, edge + 1}} {
			var want []api.Dist
			werr := api.OK
			for _, n := range numbers {
				d, err := noise.Hide(r, x[0], x[1], n)
				if err != api.OK {
					want, werr = nil, err
					break
				}
				want = append(want, d)
			}
			got, err := noise.HideAll(r, x[0], x[1], numbers)
			holdAll(t, "HideAll", got, err, want, werr)
		}
	}
}

// TestN2Hidden: of numbers that lie one from the other, what is told of either is just r times likelier, at most; of numbers further off r times itself as often.
func TestN2Hidden(t *testing.T) {
	for _, r := range []api.Ratio{f(1, 1), f(2, 1), f(3, 2), f(5, 4)} {
		for n := -4; n <= 4; n++ {
			for m := -4; m <= 4; m++ {
				a, _ := noise.Hide(r, -3, 2, n)
				b, _ := noise.Hide(r, -3, 2, m)
				far, err := dist.Far(a, b)
				between := min(max(n, -3), 2) - min(max(m, -3), 2)
				want, werr := ratio.Power(r, max(between, -between))
				holdRatio(t, "Far", far, err, want, werr)
			}
		}
	}
}

func TestN3Lost(t *testing.T) {
	for _, x := range []struct {
		r     api.Ratio
		moves int
		want  api.Ratio
		err   api.Errno
	}{
		{f(3, 2), 0, f(1, 1), api.OK},
		{f(3, 2), 1, f(3, 2), api.OK},
		{f(3, 2), 3, f(27, 8), api.OK},
		{f(3, 2), 18, f(387420489, 262144), api.OK},
		{f(3, 2), 19, f(0, 0), api.ErrMuch}, // 3^19 is above MaxPart
		{f(2, 1), 30, f(most, 1), api.OK},
		{f(2, 1), 31, f(0, 0), api.ErrMuch},
		{f(2, 1), 64, f(0, 0), api.ErrMuch},
		{f(most, 1), 0, f(1, 1), api.OK},
		{f(most, most-1), 1, f(most, most-1), api.OK},
		{f(most, most-1), 2, f(0, 0), api.ErrMuch},
		{f(1, 1), api.MaxOuts, f(1, 1), api.OK},
		{f(1, 1), api.MaxOuts + 1, f(0, 0), api.ErrRange},
		{f(2, 1), api.MaxOuts, f(0, 0), api.ErrMuch},
		{f(2, 1), api.MaxOuts + 1, f(0, 0), api.ErrRange}, // ahead of what is too much
		{f(2, 1), -1, f(0, 0), api.ErrRange},
		{f(1, 1), math.MinInt, f(0, 0), api.ErrRange},
		{f(1, 1), math.MaxInt, f(0, 0), api.ErrRange},
		{f(1, 2), 3, f(0, 0), api.ErrRange},
		{f(0, 1), 1, f(0, 0), api.ErrRange},
		{f(2, 4), 1, f(0, 0), api.ErrForm},
		{f(2, 2), -1, f(0, 0), api.ErrForm},
	} {
		got, err := noise.Lost(x.r, x.moves)
		holdRatio(t, "Lost", got, err, x.want, x.err)
	}
}
