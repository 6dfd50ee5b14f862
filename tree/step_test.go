package tree_test

import (
	"math"
	"math/big"
	"reflect"
	"testing"

	"hushhouse/api"
	"hushhouse/dist"
	"hushhouse/noise"
	"hushhouse/tree"
)

// line is a distribution of the numbers from one on, those without weight left out.
func line(from int, weights ...int) api.Dist {
	var out api.Dist
	for i, w := range weights {
		if w > 0 {
			out = append(out, api.Part{Out: []int{from + i}, Weight: w})
		}
	}
	return out
}

func holdStep(t *testing.T, c *tree.Counter, item int, want ...api.Dist) {
	t.Helper()
	time := c.Time()
	got, err := c.Step(item)
	if err != api.OK || !reflect.DeepEqual(got, want) {
		t.Fatalf("at the time %d: Step(%d) is %v, %d, not %v", time, item, got, err, want)
	}
	if c.Time() != time+1 {
		t.Fatalf("the time %d is behind the time %d", c.Time(), time)
	}
}

func refused(t *testing.T, c *tree.Counter, item int, want api.Errno) {
	t.Helper()
	time, lost := c.Time(), c.Lost()
	if got, err := c.Step(item); err != want || len(got) > 0 {
		t.Fatalf("at the time %d: Step(%d) is %v, %d, not %d", time, item, got, err, want)
	}
	if c.Time() != time || c.Lost() != lost {
		t.Fatalf("what was refused made the time %d of %d, and %v lost of %v", c.Time(), time, c.Lost(), lost)
	}
}

// wholeSums are the sums of the nodes that end with the last of some items, level by level.
func wholeSums(high int, items []int) []int {
	var out []int
	for level := range high + 1 {
		if len(items)%power(level) != 0 {
			break
		}
		sum := 0
		for _, x := range items[len(items)-power(level):] {
			sum += x
		}
		out = append(out, sum)
	}
	return out
}

// hidden is what may be told of some sums.
func hidden(t *testing.T, r api.Ratio, low, top int, sums []int) []api.Dist {
	t.Helper()
	var out []api.Dist
	for _, sum := range sums {
		d, err := noise.Hide(r, low, top, sum)
		if err != api.OK {
			t.Fatalf("Hide(%v, %d, %d, %d) tells %d", r, low, top, sum, err)
		}
		out = append(out, d)
	}
	return out
}

func TestG3Example(t *testing.T) {
	none, one, two, three := line(0, 8, 2, 1, 1), line(0, 2, 2, 1, 1), line(0, 1, 1, 2, 2), line(0, 1, 1, 2, 8)
	c := fresh(t, 2, f(2, 1), 0, 3)
	holdStep(t, c, 1, one)
	holdStep(t, c, 0, none, one)
	holdStep(t, c, 2, two)
	holdStep(t, c, 1, one, three, three)
	refused(t, c, 1, api.ErrState)

	c = fresh(t, 0, f(2, 1), 0, 3)
	holdStep(t, c, 2, two)
	refused(t, c, 2, api.ErrState)

	c = fresh(t, 1, f(3, 2), 5, 5)
	holdStep(t, c, 2, line(5, 1))
	holdStep(t, c, 9, line(5, 1), line(5, 1))
	refused(t, c, 2, api.ErrState)

	c = fresh(t, 3, f(1, 1), -1, 1)
	holdStep(t, c, 2, line(-1, 1, 0, 1))
	holdStep(t, c, 9, line(-1, 1, 0, 1), line(-1, 1, 0, 1))
}

// TestG3BelowAndAbove: a sum is hidden as the end that is nearer, and still counts whole in the nodes above.
func TestG3BelowAndAbove(t *testing.T) {
	below, at, up, above := line(4, 8, 2, 1, 1), line(4, 2, 2, 1, 1), line(4, 1, 1, 2, 2), line(4, 1, 1, 2, 8)
	c := fresh(t, 3, f(2, 1), 4, 7)
	holdStep(t, c, 1, below)
	holdStep(t, c, 4, below, at)
	holdStep(t, c, 0, below)
	holdStep(t, c, 1, below, below, up)
	holdStep(t, c, 100, above)
	holdStep(t, c, 0, below, above)

	c = fresh(t, 1, f(2, 1), -3, 0)
	holdStep(t, c, 0, line(-3, 1, 1, 2, 8))
	holdStep(t, c, 7, line(-3, 1, 1, 2, 8), line(-3, 1, 1, 2, 8))
}

// TestG3Items: what may come, and what may not; nothing is left of what is refused.
func TestG3Items(t *testing.T) {
	const top = api.MaxItem
	c := fresh(t, 1, f(2, 1), 2*top-3, 2*top)
	for _, item := range []int{-1, top + 1, -top, 2 * top, math.MinInt, math.MaxInt} {
		refused(t, c, item, api.ErrRange)
	}
	holdStep(t, c, top, line(2*top-3, 8, 2, 1, 1))
	for _, item := range []int{-1, top + 1, math.MinInt, math.MaxInt} {
		refused(t, c, item, api.ErrRange)
	}
	holdStep(t, c, top, line(2*top-3, 8, 2, 1, 1), line(2*top-3, 1, 1, 2, 8))
	for _, item := range []int{0, 1, top, -1, top + 1, math.MinInt, math.MaxInt} {
		refused(t, c, item, api.ErrState)
	}

	c = fresh(t, 1, f(2, 1), 0, 1)
	holdStep(t, c, 0, line(0, 2, 1))
	holdStep(t, c, 0, line(0, 2, 1), line(0, 2, 1))
}

// TestG3AllItems: as many and as large ones as may come are as much as a number may be.
func TestG3AllItems(t *testing.T) {
	low, top := api.MaxNum-2, api.MaxNum
	c := fresh(t, api.MaxHigh, f(2, 1), low, top)
	for step := range power(api.MaxHigh) {
		got, err := c.Step(api.MaxItem)
		if err != api.OK {
			t.Fatalf("the step %d tells %d", step, err)
		}
		for level, d := range got {
			want := line(low, 4, 1, 1)
			if level == api.MaxHigh {
				want = line(low, 1, 1, 4)
			}
			if !reflect.DeepEqual(d, want) {
				t.Fatalf("at the step %d, of the level %d %v is told, not %v", step, level, d, want)
			}
		}
	}
	refused(t, c, 0, api.ErrState)
}

// TestG3Nodes: at each step just the nodes that end with it, each as the sum of all items of its steps, however high the tree is.
func TestG3Nodes(t *testing.T) {
	for high := range api.MaxHigh + 1 {
		for _, x := range []struct {
			r        api.Ratio
			low, top int
		}{{f(2, 1), 0, 20}, {f(3, 2), 10, 20}, {f(3, 2), -5, 3}, {f(5, 4), 1, 1}} {
			c := fresh(t, high, x.r, x.low, x.top)
			var items []int
			for step := range power(high) {
				item := step * step % 7 % 4
				items = append(items, item)
				sums := wholeSums(high, items)
				ended := 0
				for _, s := range nodes(high) {
					if _, to := stepsOf(s); to == step+1 {
						ended++
					}
				}
				if len(sums) != ended {
					t.Fatalf("%d nodes end with the step %d, not %d", ended, step, len(sums))
				}
				holdStep(t, c, item, hidden(t, x.r, x.low, x.top, sums)...)
			}
			refused(t, c, 0, api.ErrState)
			refused(t, c, -1, api.ErrState)
		}
	}
}

// TestG3RefusedLeavesNothing: two counters, one of which is asked for steps that can't be made, go the same way.
func TestG3RefusedLeavesNothing(t *testing.T) {
	calm, teased := fresh(t, 4, f(3, 2), 0, 9), fresh(t, 4, f(3, 2), 0, 9)
	for step := range power(4) {
		for _, item := range []int{-1, api.MaxItem + 1, math.MinInt, math.MaxInt, -step - 1} {
			refused(t, teased, item, api.ErrRange)
		}
		want, err := calm.Step(step % 3)
		if err != api.OK {
			t.Fatalf("the step %d tells %d", step, err)
		}
		holdStep(t, teased, step%3, want...)
	}
	for range 3 {
		refused(t, teased, 0, api.ErrState)
	}
	if calm.Time() != teased.Time() || calm.Lost() != teased.Lost() {
		t.Errorf("one is at the time %d, the other one at %d", calm.Time(), teased.Time())
	}
}

// TestG3NobodyIsSeen: if one item is more by one, all that is told together is at most as many times likelier as Lost says, and no less is lost where nothing is brought in.
func TestG3NobodyIsSeen(t *testing.T) {
	for high := range 5 {
		for moved := range power(high) {
			a, b := fresh(t, high, f(5, 4), 0, 3), fresh(t, high, f(5, 4), 0, 3)
			all := big.NewRat(1, 1)
			for step := range power(high) {
				more := 0
				if step == moved {
					more = 1
				}
				told, _ := a.Step(0)
				other, _ := b.Step(more)
				for i := range told {
					far, err := dist.Far(told[i], other[i])
					if err != api.OK {
						t.Fatalf("Far tells %d", err)
					}
					all.Mul(all, big.NewRat(int64(far.Up), int64(far.Down)))
				}
			}
			if lost := a.Lost(); all.Cmp(big.NewRat(int64(lost.Up), int64(lost.Down))) != 0 {
				t.Errorf("with the item at %d one more %v is lost, not %v", moved, all, lost)
			}
		}
	}
}
