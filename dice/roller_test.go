package dice_test

import (
	"fmt"
	"math"
	"testing"

	"hushhouse/api"
	"hushhouse/dice"
)

// roller is one that must come.
func roller(t *testing.T, d api.Dist) *dice.Roller {
	t.Helper()
	r, err := dice.New(d)
	if err != api.OK || r == nil {
		t.Fatalf("New tells %v, %d of %.100s", r, err, fmt.Sprint(d))
	}
	return r
}

// fed holds what Feed tells against what must come: nothing, if there is no draw in want.
func fed(t *testing.T, r *dice.Roller, bit int, want ...api.Draw) {
	t.Helper()
	got, ok := r.Feed(bit)
	if ok != (len(want) == 1) || !ok && (got.Out != nil || got.Bits != 0) || ok && !same(got, want[0]) {
		t.Errorf("Feed(%d) is %v, %v, not %v", bit, got, ok, want)
	}
}

// sure holds what Sure tells against what must come.
func sure(t *testing.T, r *dice.Roller, want ...api.Draw) {
	t.Helper()
	got, ok := r.Sure()
	if ok != (len(want) == 1) || !ok && (got.Out != nil || got.Bits != 0) || ok && !same(got, want[0]) {
		t.Errorf("Sure is %v, %v, not %v", got, ok, want)
	}
}

func TestB4New(t *testing.T) {
	for name, c := range wrongs() {
		if r, err := dice.New(c.d); r != nil || err != c.err {
			t.Errorf("%s: New tells %v, %d, not %d", name, r, err, c.err)
		}
	}
}

func TestB4Feed(t *testing.T) {
	r := roller(t, weights(1, 3, 1))
	fed(t, r, 0, x(1, 1))
	fed(t, r, 1)
	fed(t, r, 0)
	fed(t, r, 0, x(3, 0))
	fed(t, r, 1)
	fed(t, r, 0)
	fed(t, r, 1, x(3, 2))
	fed(t, r, 1)
	fed(t, r, 1)
	fed(t, r, 0)
	fed(t, r, 1, x(4, 1))
	fed(t, r, 0, x(1, 1))
}

func TestB4LowestDigitCounts(t *testing.T) {
	for _, even := range []int{0, 2, -2, 4, 1 << 40, -1 << 40, math.MinInt, math.MaxInt - 1} {
		fed(t, roller(t, weights(1, 1)), even, x(1, 0))
	}
	for _, odd := range []int{1, 3, -1, -3, 5, 1<<40 + 1, math.MinInt + 1, math.MaxInt} {
		fed(t, roller(t, weights(1, 1)), odd, x(1, 1))
	}
	r := roller(t, weights(1, 3, 1))
	fed(t, r, -7)
	fed(t, r, math.MinInt)
	fed(t, r, 11, x(3, 2))
	fed(t, r, 6, x(1, 1))
}

func TestB4SureOfSeveral(t *testing.T) {
	r := roller(t, weights(1, 3, 1))
	sure(t, r)
	fed(t, r, 1)
	sure(t, r)
	fed(t, r, 0)
	sure(t, r)
	fed(t, r, 1, x(3, 2))
	sure(t, r)
	fed(t, r, 0, x(1, 1))
}

func TestB4SureOfOne(t *testing.T) {
	for _, out := range [][]int{nil, {}, {9}, {4, -4}} {
		r := roller(t, api.Dist{{Out: out, Weight: 1}})
		for _, bit := range []int{0, 1, 1, 5, -1} {
			sure(t, r, x(0, out...))
			sure(t, r, x(0, out...))
			fed(t, r, bit)
		}
		sure(t, r, x(0, out...))
	}
}

// TestB4LikeRolls: what a roller is fed, draw by draw, is what Rolls makes of all bits at once.
func TestB4LikeRolls(t *testing.T) {
	for _, d := range some()[1:] {
		bits := mixed(7, 900)
		want, _ := dice.Rolls(d, bits, api.MaxOuts)
		r := roller(t, d)
		var got []api.Draw
		for _, bit := range bits {
			if next, ok := r.Feed(bit); ok {
				got = append(got, next)
			}
			r.Sure()
		}
		told(t, fmt.Sprintf("%.40s", fmt.Sprint(d)), got, api.OK, want, api.OK)
	}
}

// TestB4NeverEnds: a draw that goes on and on stays right, however many bits it has used.
func TestB4NeverEnds(t *testing.T) {
	r := roller(t, weights(1, 2))
	const many = 1 << 18
	for range many {
		fed(t, r, 1)
	}
	fed(t, r, 0, x(many+1, 1))
	fed(t, r, 0, x(1, 1))
}

// TestB4Apart: rollers of one distribution don't know of one another.
func TestB4Apart(t *testing.T) {
	d := weights(1, 3, 1)
	a, b := roller(t, d), roller(t, d)
	fed(t, a, 1)
	fed(t, b, 0, x(1, 1))
	fed(t, a, 0)
	fed(t, b, 1)
	fed(t, a, 0, x(3, 0))
	fed(t, b, 0)
	fed(t, b, 1, x(3, 2))
}
