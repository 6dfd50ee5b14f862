package choice_test

import (
	"math"
	"reflect"
	"slices"
	"testing"

	"hushhouse/api"
	"hushhouse/choice"
	"hushhouse/dist"
)

const (
	most  = api.MaxPart
	edge  = api.MaxNum
	reach = api.MaxReach
)

func f(up, down int) api.Ratio { return api.Ratio{Up: up, Down: down} }

// line is a distribution of the numbers from 0 on, with these weights.
func line(weights ...int) api.Dist {
	var out api.Dist
	for i, w := range weights {
		out = append(out, api.Part{Out: []int{i}, Weight: w})
	}
	return out
}

// times is a list of so many of a number.
func times(many, number int) []int { return slices.Repeat([]int{number}, many) }

// notRight are no fractions.
var notRight = []api.Ratio{
	{}, f(1, 0), f(0, 0), f(2, 2), f(4, 2), f(2, 4), f(0, 2), f(-1, 1), f(1, -1), f(-2, -1), f(most+1, 1), f(1, most+1),
	f(most, most), f(most, 2), f(math.MaxInt, 1), f(math.MinInt, 1), f(1, math.MinInt), f(math.MaxInt, math.MaxInt),
}

// less are fractions less than 1.
var less = []api.Ratio{f(0, 1), f(1, 2), f(2, 3), f(1, most), f(most-1, most)}

// losses are fractions of at least 1.
var losses = []api.Ratio{f(1, 1), f(2, 1), f(3, 2), f(3, 1), f(7, 5), f(101, 100), f(most, most-1), f(most, 1)}

type chooser struct {
	name string
	do   func(api.Ratio, []int) (api.Dist, api.Errno)
}

func choosers() []chooser {
	return []chooser{{"Weigh", choice.Weigh}, {"Flip", choice.Flip}}
}

func holdDist(t *testing.T, what string, got api.Dist, err api.Errno, want api.Dist, werr api.Errno) {
	t.Helper()
	if err != werr || len(got) != len(want) || len(want) > 0 && !reflect.DeepEqual(got, want) {
		t.Errorf("%s is %v, %d, not %v, %d", what, got, err, want, werr)
	}
	if err == api.OK && dist.Wrong(got) != api.OK {
		t.Errorf("%s is %v: that is no distribution", what, got)
	}
}

// even is each of so many as likely as each other.
func even(many int) api.Dist { return line(times(many, 1)...) }

func TestC1Loss(t *testing.T) {
	// All else is wrong as well, in most of these: what is wrong with r is told first.
	lists := [][]int{{1}, {1, 0}, nil, {}, times(9, 0), {edge + 1}, {0, 65}, {0, 64}, {math.MinInt, math.MaxInt}}
	for _, c := range choosers() {
		for _, l := range lists {
			for _, r := range notRight {
				got, err := c.do(r, l)
				holdDist(t, c.name, got, err, nil, api.ErrForm)
			}
			for _, r := range less {
				got, err := c.do(r, l)
				holdDist(t, c.name, got, err, nil, api.ErrRange)
			}
		}
		for _, r := range losses {
			got, err := c.do(r, []int{7})
			holdDist(t, c.name, got, err, line(1), api.OK)
		}
	}
}

func TestC1Many(t *testing.T) {
	for _, c := range choosers() {
		for _, l := range [][]int{nil, {}, make([]int, 0, 4)} {
			got, err := c.do(f(2, 1), l)
			holdDist(t, c.name+" of none", got, err, nil, api.ErrMany)
		}
		for many := 1; many <= api.MaxPick; many++ {
			got, err := c.do(f(2, 1), times(many, 3))
			holdDist(t, c.name, got, err, even(many), api.OK)
		}
		for _, many := range []int{api.MaxPick + 1, api.MaxPick + 2, 4097} {
			for _, score := range []int{0, edge + 1, math.MinInt} { // ahead of a score that is none
				got, err := c.do(f(2, 1), times(many, score))
				holdDist(t, c.name+" of too many", got, err, nil, api.ErrMany)
			}
		}
		got, err := c.do(f(2, 1), []int{0, 0, 0, 0, 0, 0, 0, 0, 65})
		holdDist(t, c.name+" of too many", got, err, nil, api.ErrMany)
	}
}

func TestC1Scores(t *testing.T) {
	for _, x := range []struct {
		l   []int
		err api.Errno
	}{
		{[]int{-edge}, api.OK},
		{[]int{-edge - 1}, api.ErrRange},
		{[]int{edge}, api.OK},
		{[]int{edge + 1}, api.ErrRange},
		{[]int{math.MinInt}, api.ErrRange},
		{[]int{math.MaxInt}, api.ErrRange},
		{[]int{-edge, -edge + 1}, api.OK},
		{[]int{-edge - 1, -edge}, api.ErrRange},
		{[]int{-edge, -edge - 1}, api.ErrRange},
		{[]int{edge, edge - 1}, api.OK},
		{[]int{edge, edge + 1}, api.ErrRange},
		{[]int{edge + 1, edge}, api.ErrRange},
		{[]int{edge + 1, edge + 1}, api.ErrRange},
		{[]int{-edge, edge}, api.ErrRange},
		{[]int{0, math.MinInt}, api.ErrRange},
		{[]int{0, math.MaxInt}, api.ErrRange},
		{[]int{math.MaxInt, math.MinInt}, api.ErrRange}, // how far that is doesn't fit into a word
		{[]int{math.MinInt, math.MaxInt, 0}, api.ErrRange},
		{[]int{0, reach}, api.OK},
		{[]int{0, reach + 1}, api.ErrRange},
		{[]int{reach, 0}, api.OK},
		{[]int{reach + 1, 0}, api.ErrRange},
		{[]int{-reach / 2, 0, reach / 2}, api.OK},
		{[]int{-reach / 2, 0, reach/2 + 1}, api.ErrRange},
		{[]int{reach + 1, reach, 1, 0}, api.ErrRange},
		{[]int{reach + 1, reach, 1, 1}, api.OK},
		{[]int{edge - reach, edge}, api.OK},
		{[]int{edge - reach - 1, edge}, api.ErrRange},
		{[]int{-edge + reach, -edge}, api.OK},
		{[]int{-edge + reach + 1, -edge}, api.ErrRange},
		{append(times(7, 0), reach), api.OK},
		{append(times(7, 0), reach+1), api.ErrRange},
		{append([]int{reach + 1}, times(7, 1)...), api.OK},
		{append(times(7, 5), 5-reach-1), api.ErrRange},
	} {
		for _, c := range choosers() {
			var want api.Dist
			if x.err == api.OK {
				want = even(len(x.l)) // by 1, nothing hangs on the scores
			}
			got, err := c.do(f(1, 1), x.l)
			holdDist(t, c.name, got, err, want, x.err)
			if x.err != api.OK { // ahead of what is too much
				got, err = c.do(f(most, most-1), x.l)
				holdDist(t, c.name, got, err, nil, x.err)
			}
		}
	}
}

func TestC2Weigh(t *testing.T) {
	for _, x := range []struct {
		r    api.Ratio
		l    []int
		want api.Dist
	}{
		{f(2, 1), []int{1, 0}, line(2, 1)},
		{f(2, 1), []int{0, 1}, line(1, 2)},
		{f(2, 1), []int{3}, line(1)},
		{f(2, 1), []int{0, 0, 0}, line(1, 1, 1)},
		{f(2, 1), []int{5, 3, 4, 1}, line(16, 4, 8, 1)},
		{f(2, 1), []int{4, 9, 9, 7}, line(1, 32, 32, 8)},
		{f(3, 2), []int{1, 0}, line(3, 2)},
		{f(3, 2), []int{-1, 1, 0, 1}, line(4, 9, 6, 9)},
		{f(3, 2), []int{1, 1, 0, 0}, line(3, 3, 2, 2)},
		{f(7, 5), []int{-10, -8}, line(25, 49)},
		{f(10, 1), []int{2, 1, 0}, line(100, 10, 1)},
		{f(10, 1), []int{2, 0}, line(100, 1)},
		{f(10, 9), []int{2, 0}, line(100, 81)},
		{f(1, 1), []int{50, 0, -14}, line(1, 1, 1)},
		{f(most, most-1), []int{4, 4}, line(1, 1)},
		{f(2, 1), []int{0, 1, 2, 3, 4, 5, 6, 7}, line(1, 2, 4, 8, 16, 32, 64, 128)},
	} {
		got, err := choice.Weigh(x.r, x.l)
		holdDist(t, "Weigh", got, err, x.want, api.OK)
	}
}

// TestC2Much: all weights together just at MaxPart, one beyond, and so far beyond that they would not fit into a word.
func TestC2Much(t *testing.T) {
	const half = most / 2
	for _, x := range []struct {
		r    api.Ratio
		l    []int
		want api.Dist
	}{
		{f(most, 1), []int{8}, line(1)}, // of one score nothing is reckoned
		{f(most, most-1), times(8, 8), even(8)},
		{f(most-1, 1), []int{1, 0}, line(most-1, 1)},
		{f(most, 1), []int{1, 0}, nil}, // MaxPart + 1
		{f(half+1, half-1), []int{1, 0}, line(half+1, half-1)},
		{f(half+1, half), []int{1, 0}, nil}, // MaxPart + 1
		{f(half-1, 2), []int{1, 1, 0}, line(half-1, half-1, 2)},
		{f(half-1, 3), []int{1, 1, 0}, nil}, // MaxPart + 1
		{f(most-6, 3), []int{0, 1, 0}, line(3, most-6, 3)},
		{f(most-5, 3), []int{0, 1, 0}, nil}, // MaxPart + 1
		{f(153391689, 1), append(times(7, 1), 0), line(append(times(7, 153391689), 1)...)},
		{f(153391689, 2), append(times(7, 1), 0), nil}, // MaxPart + 1
		{f(1<<15-1, 1), []int{2, 1, 1, 0}, line((1<<15-1)*(1<<15-1), 1<<15-1, 1<<15-1, 1)},
		{f(1<<15, 1), []int{2, 1, 1, 0}, nil},
		{f(513, 511), []int{0, 1, 1, 1, 2, 2, 2, 3}, line(511*511*511, 511*511*513, 511*511*513, 511*511*513, 511*513*513, 511*513*513, 511*513*513, 513*513*513)},
		{f(513, 512), []int{0, 1, 1, 1, 2, 2, 2, 3}, nil},
		{f(2, 1), []int{29, 28, 0}, line(1<<29, 1<<28, 1)},
		{f(2, 1), []int{29, 29, 0}, nil}, // MaxPart + 1
		{f(2, 1), []int{30, 0}, nil},     // MaxPart + 1
		{f(2, 1), []int{31, 0}, nil},
		{f(2, 1), []int{63, 0}, nil},       // above 2^63
		{f(2, 1), []int{64, 0}, nil},       // above 2^64: the last word of it is 1
		{f(4, 1), []int{0, 32}, nil},       // above 2^64
		{f(4, 1), []int{63, 0}, nil},       // above 2^126
		{f(1<<16, 1), []int{4, 0}, nil},    // above 2^64
		{f(1<<16, 1), []int{4, 2, 0}, nil}, // above 2^64
		{f(2, 1), append(times(7, 61), 0), nil},
		{f(2, 1), append(times(4, 62), 0), nil}, // above 2^64
		{f(most, 1), []int{reach, 0}, nil},
		{f(most, most-1), []int{1, 0}, nil},
		{f(most, most-1), []int{reach, 0}, nil},
		{f(most, most-1), []int{0, reach, 31, 32, 33, 2, 1, 5}, nil},
		{f(most, most-1), append(times(7, 0), reach), nil},
		{f(1<<29+1, 1<<29), append(times(7, 0), 2), nil},
	} {
		werr := api.OK
		if x.want == nil {
			werr = api.ErrMuch
		}
		got, err := choice.Weigh(x.r, x.l)
		holdDist(t, "Weigh", got, err, x.want, werr)
	}
}

func TestC3Flip(t *testing.T) {
	for _, x := range []struct {
		r    api.Ratio
		l    []int
		want api.Dist
	}{
		{f(2, 1), []int{1, 0}, line(3, 1)},
		{f(2, 1), []int{0, 1}, line(1, 3)},
		{f(2, 1), []int{3}, line(1)},
		{f(2, 1), []int{2, 0}, line(7, 1)},
		{f(3, 2), []int{1, 0}, line(2, 1)},
		{f(3, 1), []int{1, 0}, line(5, 1)},
		{f(3, 2), []int{0, 2}, line(2, 7)},
		{f(2, 1), []int{0, 0, 0}, line(1, 1, 1)},
		{f(2, 1), []int{1, 1, 0}, line(5, 5, 2)},
		{f(2, 1), []int{1, 0, 0}, line(14, 5, 5)},
		{f(2, 1), []int{1, 0, 1}, line(5, 2, 5)},
		{f(2, 1), []int{5, 3, 4, 1}, line(997, 157, 345, 37)},
		{f(3, 2), []int{5, 3, 4, 1}, line(3300, 1070, 1751, 440)},
		{f(1, 1), []int{50, 0, -14}, line(1, 1, 1)},
		{f(most, most-1), []int{4, 4}, line(1, 1)},
		{f(2, 1), append(times(7, 1), 0), line(15, 15, 15, 15, 15, 15, 15, 7)},         // 1/8 times 1/2 of the last one
		{f(26630, 1), append(times(7, 1), 0), line(append(times(7, 8*26630-1), 7)...)}, // the seventh part, each, of all that is not the last one's
	} {
		got, err := choice.Flip(x.r, x.l)
		holdDist(t, "Flip", got, err, x.want, api.OK)
	}
}

// TestC3Much: the product of the number of orders and the powers just at MaxPart, next to it, and so far beyond that it would not fit into a word.
func TestC3Much(t *testing.T) {
	const half = most / 2
	for _, x := range []struct {
		r   api.Ratio
		l   []int
		err api.Errno
	}{
		{f(most, most-1), []int{8}, api.OK},
		{f(most, 1), times(8, 8), api.OK}, // there are only the orders
		{f(half, 1), []int{1, 0}, api.OK}, // MaxPart
		{f(half, 1), []int{0, 1}, api.OK},
		{f(half, half-1), []int{1, 0}, api.OK},
		{f(half+1, 1), []int{1, 0}, api.ErrMuch}, // MaxPart + 2
		{f(half+1, half), []int{1, 0}, api.ErrMuch},
		{f(half-1, 1), []int{1, 0}, api.OK},
		{f(1<<14, 1), []int{2, 0}, api.OK},
		{f(1<<15, 1), []int{2, 0}, api.ErrMuch}, // 2^31
		{f(2, 1), []int{29, 0}, api.OK},         // MaxPart
		{f(2, 1), []int{30, 0}, api.ErrMuch},
		{f(178956970, 1), []int{1, 1, 0}, api.OK},      // MaxPart - 4
		{f(178956971, 1), []int{1, 1, 0}, api.ErrMuch}, // MaxPart + 2
		{f(13377, 13376), []int{0, 1, 0}, api.OK},      // 6 times 13377 times itself
		{f(13378, 13377), []int{0, 1, 0}, api.ErrMuch}, // a little above
		{f(26630, 1), append(times(7, 1), 0), api.OK},  // of eight
		{f(26631, 1), append(times(7, 1), 0), api.ErrMuch},
		{f(2, 1), []int{0, 0, 0, 2, 0, 0, 0, 0}, api.OK}, // all orders of eight, times 2^14
		{f(2, 1), []int{0, 0, 0, 2, 0, -1, 0, 0}, api.ErrMuch},
		{f(4, 1), []int{1, 0, 0, 0, 0, 0, 0, 0}, api.OK},
		{f(5, 1), []int{1, 0, 0, 0, 0, 0, 0, 0}, api.ErrMuch},
		{f(2, 1), []int{62, 0}, api.ErrMuch}, // 2^63
		{f(2, 1), []int{63, 0}, api.ErrMuch}, // 2^64: the last word of it is 0
		{f(2, 1), []int{64, 0}, api.ErrMuch},
		{f(4, 1), []int{32, 0}, api.ErrMuch},
		{f(4, 1), []int{31, 0}, api.ErrMuch},
		{f(2, 1), []int{64, 32, 32, 0}, api.ErrMuch},             // 24 times 2^128
		{f(2, 1), []int{21, 1, 1, 0}, api.ErrMuch},               // 24 times 2^61
		{f(2, 1), []int{9, 1, 1, 1, 1, 1, 1, 0}, api.ErrMuch},    // all orders of eight, times 2^57: the last word of it is 0
		{f(2, 1), []int{8, 8, 8, 8, 8, 8, 8, 0}, api.OK},         // one score alone is below
		{f(1<<16, 1), []int{4, 0}, api.ErrMuch},                  // 2^65
		{f(1<<8, 1), []int{1, 1, 0, 0, 0, 0, 0, 0}, api.ErrMuch}, // six are below
		{f(most, most-1), []int{1, 0}, api.ErrMuch},
		{f(most, most-1), []int{0, 1, 0, 0}, api.ErrMuch}, // 2^90 and more
		{f(most, 1), []int{reach, 0}, api.ErrMuch},
		{f(most, most-1), append(times(7, 0), reach), api.ErrMuch},
		{f(1, 1), append(times(7, 0), reach), api.OK},
	} {
		got, err := choice.Flip(x.r, x.l)
		if err != x.err || (err == api.OK) != (len(got) > 0) {
			t.Errorf("Flip by %v of %v is %v, %d, not %d", x.r, x.l, got, err, x.err)
		}
	}
	for _, x := range []struct {
		r    api.Ratio
		l    []int
		want api.Dist
	}{
		{f(half, 1), []int{1, 0}, line(most-1, 1)},
		{f(half, half-1), []int{1, 0}, line(half+1, half-1)},
		{f(2, 1), []int{0, 29}, line(1, most-1)},
		{f(1<<14, 3), []int{2, 0}, line(1<<29-9, 9)},
	} {
		got, err := choice.Flip(x.r, x.l)
		holdDist(t, "Flip", got, err, x.want, api.OK)
	}
}

// TestC1Order holds every wrong r against every wrong list, and both against what is too much.
func TestC1Order(t *testing.T) {
	type faulty struct {
		l   []int
		err api.Errno
	}
	lists := []faulty{
		{nil, api.ErrMany}, {times(9, 0), api.ErrMany}, {append(times(8, 0), edge+1), api.ErrMany}, {append(times(8, 0), 65), api.ErrMany},
		{[]int{0, -edge - 1}, api.ErrRange}, {[]int{0, 65}, api.ErrRange}, {[]int{0, 64}, api.ErrMuch}, {[]int{0, 0, 40}, api.ErrMuch}, {[]int{1, 0}, api.OK},
	}
	for _, c := range choosers() {
		for _, x := range lists {
			for r, want := range map[api.Ratio]api.Errno{f(4, 2): api.ErrForm, f(2, 4): api.ErrForm, f(1, 2): api.ErrRange, f(2, 1): api.OK} {
				if want == api.OK {
					want = x.err
				}
				got, err := c.do(r, x.l)
				if err != want || (err == api.OK) != (len(got) > 0) {
					t.Errorf("%s by %v of %v is %v, %d, not %d", c.name, r, x.l, got, err, want)
				}
			}
		}
	}
}
