package dice_test

import (
	"fmt"
	"math"
	"slices"
	"testing"

	"hushhouse/api"
	"hushhouse/dice"
)

// p is a part: its weight, then its outcome.
func p(weight int, out ...int) api.Part { return api.Part{Out: out, Weight: weight} }

// x is a draw: how many bits it used, then its outcome.
func x(bits int, out ...int) api.Draw { return api.Draw{Out: out, Bits: bits} }

// weights is a distribution of the numbers from 0 on with these weights.
func weights(list ...int) api.Dist {
	var d api.Dist
	for i, w := range list {
		d = append(d, p(w, i))
	}
	return d
}

// b is bits, as they are written.
func b(text string) []int {
	var out []int
	for _, c := range text {
		out = append(out, int(c-'0'))
	}
	return out
}

func all(bit, many int) []int { return slices.Repeat([]int{bit}, many) }

func same(a, b api.Draw) bool { return a.Bits == b.Bits && slices.Equal(a.Out, b.Out) }

// told holds draws and an errno against what must come.
func told(t *testing.T, name string, got []api.Draw, err api.Errno, want []api.Draw, wantErr api.Errno) {
	t.Helper()
	if err != wantErr || !slices.EqualFunc(got, want, same) {
		t.Errorf("%s: %.200s, %d comes, not %.200s, %d", name, fmt.Sprint(got), err, fmt.Sprint(want), wantErr)
	}
}

type rollsCase struct {
	name  string
	d     api.Dist
	bits  []int
	times int
	want  []api.Draw
	err   api.Errno
}

func testRolls(t *testing.T, cases []rollsCase) {
	t.Helper()
	for _, c := range cases {
		got, err := dice.Rolls(c.d, c.bits, c.times)
		told(t, c.name, got, err, c.want, c.err)
	}
}

func TestB1Tree(t *testing.T) {
	half, thirds, fifths := weights(1, 1), weights(1, 2), weights(1, 3, 1)
	testRolls(t, []rollsCase{
		{"halves", half, b("0110"), 9, []api.Draw{x(1, 0), x(1, 1), x(1, 1), x(1, 0)}, api.OK},
		{"a half ahead of quarters", weights(2, 1, 1), b("01011"), 9, []api.Draw{x(1, 0), x(2, 1), x(2, 2)}, api.OK},
		{"a half between quarters", weights(1, 2, 1), b("01011"), 9, []api.Draw{x(1, 1), x(2, 0), x(2, 2)}, api.OK},
		{"a half behind quarters", weights(1, 1, 2), b("01011"), 9, []api.Draw{x(1, 2), x(2, 0), x(2, 1)}, api.OK},
		{"a half is never 0.0111..", weights(3, 2, 1), b("0"), 9, []api.Draw{x(1, 0)}, api.OK},
		{"digits that never end", thirds, b("0101100111"), 9, []api.Draw{x(1, 1), x(2, 0), x(3, 1), x(1, 1)}, api.OK},
		{"fifths: 0.00110011.. and 0.10011001..", fifths, b("0"), 9, []api.Draw{x(1, 1)}, api.OK},
		{"fifths, the first", fifths, b("100"), 9, []api.Draw{x(3, 0)}, api.OK},
		{"fifths, the third", fifths, b("101"), 9, []api.Draw{x(3, 2)}, api.OK},
		{"fifths, all at one level", fifths, b("110011011110"), 9, []api.Draw{x(4, 0), x(4, 1), x(4, 2)}, api.OK},
		{"fifths, as at first four levels below", fifths, b("11110"), 9, []api.Draw{x(5, 1)}, api.OK},
		{"not nought alone", api.Dist{p(1), p(2, -7, 3), p(1, 4)}, b("01110"), 9, []api.Draw{x(1, -7, 3), x(2, 4), x(2)}, api.OK},
		{"MaxPart in all", weights(api.MaxPart-1, 1), b("0"), 9, []api.Draw{x(1, 0)}, api.OK},
		{"the least chance", weights(1, api.MaxPart-1), slices.Concat(all(1, 29), b("0")), 9, []api.Draw{x(30, 0)}, api.OK},
		{"beside the least chance", weights(1, api.MaxPart-1), all(1, 30), 9, []api.Draw{x(30, 1)}, api.OK},
		{"below MaxPart in all", weights(api.MaxPart-2, 1), slices.Concat(all(1, 29), b("10")), 9, []api.Draw{x(31, 0)}, api.OK},
	})
}

func TestB1OneOutcomeUsesNoBit(t *testing.T) {
	for _, out := range [][]int{nil, {}, {9}, {1, 2, 3}} {
		one := api.Dist{{Out: out, Weight: 1}}
		for _, bits := range [][]int{nil, {}, {0}, b("0110"), all(1, api.MaxBits)} {
			for _, times := range []int{0, 1, 3, api.MaxOuts} {
				got, err := dice.Rolls(one, bits, times)
				told(t, fmt.Sprint(out, len(bits), times), got, err, slices.Repeat([]api.Draw{x(0, out...)}, times), api.OK)
			}
		}
	}
}

func TestB2Rolls(t *testing.T) {
	half, thirds, fifths := weights(1, 1), weights(1, 2), weights(1, 3, 1)
	long := slices.Concat(all(1, api.MaxBits-1), b("0"))
	testRolls(t, []rollsCase{
		{"nil bits", fifths, nil, 3, nil, api.OK},
		{"no bits", fifths, []int{}, 3, nil, api.OK},
		{"times 0", half, b("01"), 0, nil, api.OK},
		{"times 1", half, b("01"), 1, []api.Draw{x(1, 0)}, api.OK},
		{"times 2", half, b("01"), 2, []api.Draw{x(1, 0), x(1, 1)}, api.OK},
		{"the bits end with a draw", fifths, b("0100"), 3, []api.Draw{x(1, 1), x(3, 0)}, api.OK},
		{"the bits end in the midst", fifths, b("01001"), 3, []api.Draw{x(1, 1), x(3, 0)}, api.OK},
		{"the bits end in the midst of the first", fifths, b("10"), 3, nil, api.OK},
		{"times ends ahead of the bits", fifths, b("01001"), 1, []api.Draw{x(1, 1)}, api.OK},
		{"bits and times end together", fifths, b("0100"), 2, []api.Draw{x(1, 1), x(3, 0)}, api.OK},
		{"MaxOuts times", half, all(1, api.MaxOuts+5), api.MaxOuts, slices.Repeat([]api.Draw{x(1, 1)}, api.MaxOuts), api.OK},
		{"MaxBits bits", half, all(0, api.MaxBits), 1, []api.Draw{x(1, 0)}, api.OK},
		{"MaxBits bits in one draw", thirds, long, 2, []api.Draw{x(api.MaxBits, 0)}, api.OK},
		{"MaxBits bits in the midst", thirds, all(1, api.MaxBits), 2, nil, api.OK},
	})
}

func TestB2Errors(t *testing.T) {
	half, one := weights(1, 1), weights(1)
	much := all(0, api.MaxBits+1)
	muchWrong := all(2, api.MaxBits+1)
	testRolls(t, []rollsCase{
		{"a bit more than MaxBits", half, much, 1, nil, api.ErrMany},
		{"of one outcome too", one, much, 1, nil, api.ErrMany},
		{"times 0 too", half, much, 0, nil, api.ErrMany},
		{"times below 0", half, b("01"), -1, nil, api.ErrRange},
		{"times above MaxOuts", half, b("01"), api.MaxOuts + 1, nil, api.ErrRange},
		{"times above MaxOuts without bits", half, nil, api.MaxOuts + 1, nil, api.ErrRange},
		{"times above MaxOuts of one outcome", one, nil, api.MaxOuts + 1, nil, api.ErrRange},
		{"the least times", half, nil, math.MinInt, nil, api.ErrRange},
		{"the greatest times", half, nil, math.MaxInt, nil, api.ErrRange},
		{"a bit 2", half, []int{0, 2}, 9, nil, api.ErrRange},
		{"a bit below 0", half, []int{-1}, 9, nil, api.ErrRange},
		{"a bit 3", half, []int{3}, 9, nil, api.ErrRange},
		{"the least bit", half, []int{math.MinInt}, 9, nil, api.ErrRange},
		{"the greatest bit", half, []int{math.MaxInt}, 9, nil, api.ErrRange},
		{"a bit that no draw uses", half, []int{0, 0, 0, 2}, 1, nil, api.ErrRange},
		{"a bit, times 0", half, []int{2}, 0, nil, api.ErrRange},
		{"a bit, one outcome", one, []int{2}, 1, nil, api.ErrRange},
		{"the last of MaxBits bits", half, append(all(0, api.MaxBits-1), 2), 1, nil, api.ErrRange},
		{"ErrMany ahead of times", half, much, -1, nil, api.ErrMany},
		{"ErrMany ahead of bits", half, muchWrong, 1, nil, api.ErrMany},
	})
}

// wrongs are no distributions, with what is wrong with them.
func wrongs() map[string]rollsCase {
	return map[string]rollsCase{
		"nil":             {d: nil, err: api.ErrNone},
		"empty":           {d: api.Dist{}, err: api.ErrNone},
		"no weight":       {d: weights(0), err: api.ErrNone},
		"below 0":         {d: weights(1, -1), err: api.ErrRange},
		"above MaxPart":   {d: weights(1, api.MaxPart+1), err: api.ErrRange},
		"no outcome":      {d: api.Dist{p(1, api.MaxNum+1)}, err: api.ErrRange},
		"too wide":        {d: api.Dist{p(1, make([]int, api.MaxWide+1)...)}, err: api.ErrRange},
		"much in all":     {d: weights(api.MaxPart, 1), err: api.ErrMuch},
		"many outcomes":   {d: weights(all(1, api.MaxOuts+1)...), err: api.ErrMuch},
		"one of weight 2": {d: weights(2), err: api.ErrForm},
		"a divisor":       {d: weights(2, 4), err: api.ErrForm},
		"a nought":        {d: weights(1, 0, 1), err: api.ErrForm},
		"not rising":      {d: api.Dist{p(1, 2), p(1, 1)}, err: api.ErrForm},
		"twice":           {d: api.Dist{p(1, 1), p(2, 1)}, err: api.ErrForm},
	}
}

func TestB2WhatIsWrongWithDComesFirst(t *testing.T) {
	for name, c := range wrongs() {
		for _, bits := range [][]int{nil, b("01"), {2}, all(0, api.MaxBits+1)} {
			for _, times := range []int{0, 1, -1, api.MaxOuts + 1} {
				got, err := dice.Rolls(c.d, bits, times)
				told(t, name, got, err, nil, c.err)
			}
		}
	}
}
