package tree_test

import (
	"math"
	"testing"

	"hushhouse/api"
	"hushhouse/noise"
	"hushhouse/ratio"
	"hushhouse/tree"
)

const most = api.MaxPart

func f(up, down int) api.Ratio { return api.Ratio{Up: up, Down: down} }

func holdNew(t *testing.T, high int, r api.Ratio, low, top int, want api.Errno) *tree.Counter {
	t.Helper()
	c, err := tree.New(high, r, low, top)
	if err != want || (c == nil) != (want != api.OK) {
		t.Errorf("New(%d, %v, %d, %d) is %v, %d, not %d", high, r, low, top, c, err, want)
	}
	return c
}

func fresh(t *testing.T, high int, r api.Ratio, low, top int) *tree.Counter {
	t.Helper()
	c := holdNew(t, high, r, low, top, api.OK)
	if c == nil {
		t.FailNow()
	}
	return c
}

func TestG2New(t *testing.T) {
	for high := range api.MaxHigh + 1 {
		for _, x := range []struct {
			r        api.Ratio
			low, top int
		}{
			{f(2, 1), 0, 3}, {f(1, 1), 0, api.MaxReach}, {f(5, 4), -3, 3}, {f(2, 1), -28, 0}, {f(2, 1), 7, 7},
			{f(2, 1), -api.MaxNum, 2 - api.MaxNum}, {f(2, 1), api.MaxNum - 2, api.MaxNum}, {f(3, 2), api.MaxNum, api.MaxNum},
		} {
			c := fresh(t, high, x.r, x.low, x.top)
			if c.Time() != 0 {
				t.Errorf("a new counter is at the time %d", c.Time())
			}
		}
	}
}

// TestG2NewOneFault: each fault alone.
func TestG2NewOneFault(t *testing.T) {
	for _, high := range notHigh {
		holdNew(t, high, f(2, 1), 0, 3, api.ErrRange)
	}
	for high := range api.MaxHigh + 1 {
		for _, r := range []api.Ratio{f(0, 0), f(2, 2), f(4, 2), f(0, 2), f(-1, 1), f(2, -1), f(1, 0), f(most+1, 1), f(1, most+1), f(math.MinInt, math.MinInt), f(math.MaxInt, 1)} {
			holdNew(t, high, r, 0, 3, api.ErrForm)
		}
		for _, r := range []api.Ratio{f(0, 1), f(1, 2), f(2, 3), f(most-1, most), f(1, most)} {
			holdNew(t, high, r, 0, 3, api.ErrRange)
		}
		for _, x := range [][2]int{
			{1, 0}, {-api.MaxNum - 1, -api.MaxNum}, {-api.MaxNum - 1, -api.MaxNum - 1}, {api.MaxNum, api.MaxNum + 1}, {api.MaxNum + 1, api.MaxNum + 1},
			{0, api.MaxReach + 1}, {-1, api.MaxReach}, {math.MinInt, math.MaxInt}, {math.MaxInt, math.MinInt}, {math.MinInt, 0}, {0, math.MaxInt},
		} {
			holdNew(t, high, f(1, 1), x[0], x[1], api.ErrRange)
		}
		holdNew(t, high, f(2, 1), 0, 28, api.OK)
		holdNew(t, high, f(2, 1), 0, 29, api.ErrMuch)
	}
}

// TestG2NewPower: how high a counter may be hangs on what all its levels lose together.
func TestG2NewPower(t *testing.T) {
	for _, x := range []struct {
		r    api.Ratio
		high int // the highest that may be
	}{
		{f(most, 1), 0}, {f(most, most-1), 0}, {f(1<<15, 1), 1}, {f(1<<15+1, 1), 0}, {f(1<<10, 1), 2}, {f(1<<10+1, 1<<10), 1},
		{f(9, 1), 8}, {f(8, 1), 9}, {f(8, 7), 9}, {f(7, 1), 9}, {f(6, 1), api.MaxHigh}, {f(6, 5), api.MaxHigh}, {f(1, 1), api.MaxHigh},
	} {
		for high := range api.MaxHigh + 1 {
			want := api.OK
			if high > x.high {
				want = api.ErrMuch
			}
			holdNew(t, high, x.r, 4, 4, want)
		}
	}
	holdNew(t, 2, f(1<<12, 1), 0, 1, api.ErrMuch)
	holdNew(t, 1, f(1<<12, 1), 0, 1, api.OK)
}

// TestG2NewOrder: faults that come together, the first one of which is told.
func TestG2NewOrder(t *testing.T) {
	type loss struct {
		r   api.Ratio
		err api.Errno
	}
	for _, high := range notHigh {
		for _, r := range []api.Ratio{f(2, 1), f(2, 2), f(1, 2), f(most, 1), f(0, 0)} {
			for _, x := range [][2]int{{0, 3}, {3, 0}, {0, 64}, {0, 65}, {5, 5}} {
				holdNew(t, high, r, x[0], x[1], api.ErrRange)
			}
		}
	}
	for _, x := range []loss{{f(2, 2), api.ErrForm}, {f(2, 4), api.ErrForm}, {f(0, 2), api.ErrForm}, {f(most+1, 1), api.ErrForm}, {f(1, 2), api.ErrRange}, {f(0, 1), api.ErrRange}} {
		for _, w := range [][2]int{{0, 3}, {3, 0}, {0, 64}, {0, 65}, {5, 5}} {
			holdNew(t, api.MaxHigh, x.r, w[0], w[1], x.err)
		}
	}
	for _, x := range []struct {
		low, top int
		err      api.Errno
	}{{3, 0, api.ErrRange}, {0, 65, api.ErrRange}, {0, 64, api.ErrMuch}, {0, 1, api.ErrMuch}, {5, 5, api.ErrMuch}} {
		holdNew(t, 2, f(1<<20, 1), x.low, x.top, x.err)
	}
}

// TestG2NewIsItsParts holds New against the calls of whose words it is made.
func TestG2NewIsItsParts(t *testing.T) {
	seen := map[api.Errno]int{}
	for _, high := range []int{-1, 0, 1, 2, 5, 9, 10, 11} {
		for _, r := range []api.Ratio{f(1, 1), f(2, 1), f(3, 2), f(7, 1), f(8, 1), f(9, 8), f(100, 99), f(1<<15, 1), f(1<<14, 3), f(most, 1), f(1, 2), f(0, 1), f(3, 3), f(-2, 1)} {
			for _, x := range [][2]int{{0, 0}, {0, 1}, {-1, 1}, {2, 9}, {0, 28}, {0, 64}, {0, 65}, {1, 0}, {most, most}, {most, most + 1}} {
				want := api.ErrRange
				var lost api.Ratio
				if high >= 0 && high <= api.MaxHigh {
					if _, want = noise.Hide(r, x[0], x[1], 0); want == api.OK {
						lost, want = ratio.Power(r, high+1)
					}
				}
				seen[want]++
				if c := holdNew(t, high, r, x[0], x[1], want); c != nil && c.Lost() != lost {
					t.Errorf("New(%d, %v, ..) loses %v, not %v", high, r, c.Lost(), lost)
				}
			}
		}
	}
	for _, err := range []api.Errno{api.OK, api.ErrForm, api.ErrRange, api.ErrMuch} {
		if seen[err] < 50 {
			t.Errorf("too few of a kind are tried: %v", seen)
		}
	}
}

func TestG2Lost(t *testing.T) {
	for _, x := range []struct {
		high    int
		r, want api.Ratio
	}{
		{0, f(2, 1), f(2, 1)}, {1, f(2, 1), f(4, 1)}, {2, f(2, 1), f(8, 1)}, {10, f(2, 1), f(2048, 1)}, {0, f(3, 2), f(3, 2)},
		{3, f(3, 2), f(81, 16)}, {10, f(1, 1), f(1, 1)}, {9, f(8, 1), f(most, 1)}, {0, f(most, most-1), f(most, most-1)}, {1, f(1<<15, 1<<15-1), f(most, (1<<15-1)*(1<<15-1))},
	} {
		c := fresh(t, x.high, x.r, 0, 0)
		for step := range power(x.high) + 1 {
			if got := c.Lost(); got != x.want {
				t.Fatalf("of %d levels that lose %v each %v is lost behind %d steps, not %v", x.high+1, x.r, got, step, x.want)
			}
			c.Step(-1)
			c.Step(step)
		}
	}
}
