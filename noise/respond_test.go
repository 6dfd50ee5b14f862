package noise_test

import (
	"math"
	"testing"

	"hushhouse/api"
	"hushhouse/dist"
	"hushhouse/noise"
)

func TestN4Respond(t *testing.T) {
	for _, x := range []struct {
		r           api.Ratio
		many, truth int
		want        api.Dist
	}{
		{f(3, 1), 4, 2, line(0, 1, 1, 3, 1)},
		{f(3, 1), 4, 0, line(0, 3, 1, 1, 1)},
		{f(3, 1), 4, 3, line(0, 1, 1, 1, 3)},
		{f(3, 2), 2, 0, line(0, 3, 2)},
		{f(3, 2), 2, 1, line(0, 2, 3)},
		{f(1, 1), 3, 1, line(0, 1, 1, 1)},
		{f(5, 3), 1, 0, line(0, 1)},
	} {
		got, err := noise.Respond(x.r, x.many, x.truth)
		holdDist(t, "Respond", got, err, x.want, api.OK)
	}
}

func TestN4Range(t *testing.T) {
	for _, x := range []struct {
		many, truth int
		err         api.Errno
	}{
		{1, 0, api.OK},
		{1, 1, api.ErrRange},
		{1, -1, api.ErrRange},
		{0, 0, api.ErrRange},
		{0, -1, api.ErrRange},
		{-1, 0, api.ErrRange},
		{-1, -2, api.ErrRange},
		{4, 3, api.OK},
		{4, 4, api.ErrRange},
		{4, -1, api.ErrRange},
		{4, math.MaxInt, api.ErrRange},
		{4, math.MinInt, api.ErrRange},
		{api.MaxCells, 0, api.OK},
		{api.MaxCells, api.MaxCells - 1, api.OK},
		{api.MaxCells, api.MaxCells, api.ErrRange},
		{api.MaxCells + 1, 0, api.ErrRange},
		{api.MaxCells + 1, api.MaxCells, api.ErrRange},
		{math.MaxInt, 0, api.ErrRange},
		{math.MinInt, 0, api.ErrRange},
		{math.MinInt, math.MinInt, api.ErrRange},
	} {
		got, err := noise.Respond(f(2, 1), x.many, x.truth)
		var want api.Dist
		if x.err == api.OK {
			weights := make([]int, x.many)
			for i := range weights {
				weights[i] = 1
			}
			if weights[x.truth] = 2; x.many == 1 {
				weights[0] = 1
			}
			want = line(0, weights...)
		}
		holdDist(t, "Respond", got, err, want, x.err)
	}
}

// TestN4Much: u + (many - 1) times d just at MaxPart and one beyond.
func TestN4Much(t *testing.T) {
	const cells = api.MaxCells
	for _, x := range []struct {
		r    api.Ratio
		many int
		err  api.Errno
	}{
		{f(most, 1), 1, api.OK},
		{f(most, most-1), 1, api.OK},
		{f(most-1, 1), 2, api.OK},
		{f(most, 1), 2, api.ErrMuch},
		{f(most/2+1, most/2-1), 2, api.OK},
		{f(most/2+1, most/2), 2, api.ErrMuch},
		{f(most-2, 1), 3, api.OK},
		{f(most-1, 1), 3, api.ErrMuch},
		{f(most-cells+1, 1), cells, api.OK},
		{f(most-cells+2, 1), cells, api.ErrMuch},
		{f(most/cells+1, most/cells), cells, api.ErrMuch}, // just one beyond
		{f(most/cells+cells-1, most/cells-1), cells, api.OK},
		{f(most/cells+cells, most/cells-1), cells, api.ErrMuch},
		{f(most, most-1), 2, api.ErrMuch},
		{f(most, most-1), cells, api.ErrMuch}, // above 2^41
		{f(most, most-1), cells + 1, api.ErrRange},
	} {
		for _, truth := range []int{0, x.many - 1} {
			got, err := noise.Respond(x.r, x.many, truth)
			if err != x.err || err != api.OK && len(got) > 0 {
				t.Errorf("Respond by %v of %d is %d, not %d", x.r, x.many, err, x.err)
			}
			if err != api.OK {
				continue
			}
			up, down := x.r.Up, x.r.Down
			if x.many == 1 {
				up, down = 1, 1
			}
			for i, p := range got {
				want := down
				if i == truth {
					want = up
				}
				if len(got) != x.many || p.Out[0] != i || p.Weight != want {
					t.Errorf("Respond by %v of %d says %v", x.r, x.many, p)
				}
			}
		}
	}
}

// TestN4Order: what is out of its bounds is told ahead of what is too much; TestN1Losses has r ahead of both.
func TestN4Order(t *testing.T) {
	for _, many := range []int{2, api.MaxCells} {
		for _, truth := range []int{-1, many} {
			got, err := noise.Respond(f(most, 1), many, truth)
			holdDist(t, "Respond", got, err, nil, api.ErrRange)
		}
		got, err := noise.Respond(f(most, 1), many, 1)
		holdDist(t, "Respond", got, err, nil, api.ErrMuch)
	}
}

// TestN4Hidden: whatever the truth is, what is said is at most r times likelier by it.
func TestN4Hidden(t *testing.T) {
	for _, r := range []api.Ratio{f(1, 1), f(2, 1), f(9, 7), f(1000, 1)} {
		for a := range 5 {
			for b := range 5 {
				x, _ := noise.Respond(r, 5, a)
				y, _ := noise.Respond(r, 5, b)
				want := r
				if a == b {
					want = f(1, 1)
				}
				far, err := dist.Far(x, y)
				holdRatio(t, "Far", far, err, want, api.OK)
			}
		}
	}
}
