package ask_test

import (
	"math"
	"slices"
	"testing"

	"hushhouse/api"
	"hushhouse/ask"
)

// still is a question of one place that does not move and is at most this far from 0.
func still(far int) api.Ask { return clamp(0, far, times(0, count())) }

// moving is a question of one place that moves so far and is always 0.
func moving(far int) api.Ask { return clamp(0, 0, times(far, count())) }

func TestLevels(t *testing.T) {
	const most = api.MaxRows
	holdRight(t, "level 64", crowd(), high(api.MaxAsk, count()), api.Bound{Places: 1, Moves: 1, Most: most}, 5)
	holdWrong(t, "level 65", crowd(), high(api.MaxAsk+1, count()), api.ErrMuch)
	holdWrong(t, "level 66", crowd(), high(api.MaxAsk+2, count()), api.ErrMuch)
	holdWrong(t, "level 5000", crowd(), high(5000, count()), api.ErrMuch)

	holdRight(t, "level 64 of the second kid", crowd(), add(count(), high(api.MaxAsk-1, count())), api.Bound{Places: 1, Moves: 2, Most: 2 * most}, 10)
	holdWrong(t, "level 65 of the first kid", crowd(), add(high(api.MaxAsk, count()), count()), api.ErrMuch)
	holdWrong(t, "level 65 of the second kid", crowd(), add(count(), high(api.MaxAsk, count())), api.ErrMuch)

	// a question that is its own kid ends there too
	for _, kids := range [][]api.Ask{make([]api.Ask, 1), make([]api.Ask, 2)} {
		for i := range kids {
			kids[i] = api.Ask{Kind: []int{0, api.AskTotal, api.AskAdd}[len(kids)], Kids: kids}
		}
		if b, err := ask.Type(people(), kids[0]); err != api.ErrMuch || b != (api.Bound{}) {
			t.Errorf("Type of a question within itself is %v, %d", b, err)
		}
		if l, err := ask.Run(crowd(), kids[0]); err != api.ErrMuch || len(l) != 0 {
			t.Errorf("Run of a question within itself is %v, %d", l, err)
		}
		if v, err := ask.Part(people(), kids[0], "age"); err != api.ErrMuch || v != 0 {
			t.Errorf("Part of a question within itself is %v, %d", v, err)
		}
	}
}

func TestSpans(t *testing.T) {
	const far, most = api.MaxValue, api.MaxRows * api.MaxValue
	for _, x := range []rightCase{
		{"the widest", sum("age", -far, far), api.Bound{Places: 1, Moves: far, Most: most}, []int{8}},
		{"both at the upper end", sum("age", far, far), api.Bound{Places: 1, Moves: far, Most: most}, []int{5 * far}},
		{"both at the lower end", sum("age", -far, -far), api.Bound{Places: 1, Moves: far, Most: most}, []int{-5 * far}},
		{"from the lower end", sum("age", -far, 0), api.Bound{Places: 1, Moves: far, Most: most}, []int{0}},
		{"clamp, the widest", clamp(-far, far, bins("sex")), api.Bound{Places: 2, Moves: 1, Most: far}, []int{2, 3}},
		{"clamp at the upper end", clamp(far, far, bins("sex")), api.Bound{Places: 2, Moves: 1, Most: far}, []int{far, far}},
		{"clamp at the lower end", clamp(-far, -far, bins("sex")), api.Bound{Places: 2, Moves: 1, Most: far}, []int{-far, -far}},
		{"times at the upper end", times(far, bins("sex")), api.Bound{Places: 2, Moves: far, Most: most}, []int{2 * far, 3 * far}},
		{"times at the lower end", times(-far, bins("sex")), api.Bound{Places: 2, Moves: far, Most: most}, []int{-2 * far, -3 * far}},
	} {
		holdRight(t, x.name, crowd(), x.a, x.bound, x.want...)
	}
	for _, x := range [][2]int{
		{1, 0}, {0, -1}, {far, -far}, {-far, -far - 1},
		{-far - 1, 0}, {-far - 1, -far - 1}, {0, far + 1}, {far + 1, far + 1}, {far, far + 1},
		{math.MinInt, 0}, {0, math.MaxInt}, {math.MinInt, math.MaxInt}, {math.MaxInt, math.MinInt}, {math.MinInt, math.MinInt}, {math.MaxInt, math.MaxInt},
	} {
		holdWrong(t, "a span", crowd(), sum("age", x[0], x[1]), api.ErrRange)
		holdWrong(t, "a span", crowd(), clamp(x[0], x[1], count()), api.ErrRange)
	}
	for _, n := range []int{far + 1, -far - 1, 1 << 21, 1 << 40, 1 << 60, math.MaxInt, math.MinInt, math.MinInt + 1} {
		holdWrong(t, "a factor", crowd(), times(n, count()), api.ErrRange)
		holdWrong(t, "a factor of what is 0", crowd(), times(n, times(0, count())), api.ErrRange)
	}
}

func TestPickedPlaces(t *testing.T) {
	for name, a := range map[string]api.Ask{"bins": bins("age"), "a join": join(bins("sex"), bins("sex"))} {
		for _, place := range []int{-1, 4, 5, -4, math.MinInt, math.MaxInt} {
			holdWrong(t, name, crowd(), pick(place, a), api.ErrRange)
		}
	}
	holdWrong(t, "of one place", crowd(), pick(1, count()), api.ErrRange)
	holdRight(t, "of one place", crowd(), pick(0, count()), api.Bound{Places: 1, Moves: 1, Most: api.MaxRows}, 5)
}

func TestManyTests(t *testing.T) {
	tests := slices.Repeat([]api.Test{is("sex", 1)}, api.MaxAsk+2)
	for n, want := range map[int]int{0: 5, 1: 3, api.MaxAsk: 3} {
		holdRight(t, "tests", crowd(), count(tests[:n]...), api.Bound{Places: 1, Moves: 1, Most: api.MaxRows}, want)
	}
	last := slices.Clone(tests[:api.MaxAsk])
	last[api.MaxAsk-1] = is("age", 3)
	holdRight(t, "the last test tells", crowd(), count(last...), api.Bound{Places: 1, Moves: 1, Most: api.MaxRows}, 1)
	for _, n := range []int{api.MaxAsk + 1, api.MaxAsk + 2} {
		for _, a := range []api.Ask{count(tests[:n]...), sum("age", 0, 1, tests[:n]...), bins("age", tests[:n]...)} {
			holdWrong(t, "too many tests", crowd(), a, api.ErrMuch)
			holdWrong(t, "too many tests of a kid", crowd(), join(count(), a), api.ErrMuch)
		}
	}
}

func TestPlaces(t *testing.T) {
	x := api.Table{Columns: []api.Column{c("a", api.MaxCells)}, Rows: [][]int{{api.MaxCells - 1}, {0}, {0}}}
	want := make([]int, api.MaxCells)
	want[0], want[api.MaxCells-1] = 2, 1
	holdRight(t, "MaxCells bins", x, bins("a"), api.Bound{Places: api.MaxCells, Moves: 1, Most: api.MaxRows}, want...)
	holdRight(t, "the last of them", x, pick(api.MaxCells-1, bins("a")), api.Bound{Places: 1, Moves: 1, Most: api.MaxRows}, 1)
	holdWrong(t, "one behind it", x, pick(api.MaxCells, bins("a")), api.ErrRange)
	holdWrong(t, "one more", x, join(bins("a"), count()), api.ErrMuch)
	holdWrong(t, "one more ahead", x, join(count(), bins("a")), api.ErrMuch)
	holdWrong(t, "twice as many", x, join(bins("a"), bins("a")), api.ErrMuch)
	holdWrong(t, "one of too many", x, pick(0, join(bins("a"), count())), api.ErrMuch)
	holdWrong(t, "all of too many", x, total(join(bins("a"), count())), api.ErrMuch)

	y := api.Table{Columns: []api.Column{c("a", 2048), c("b", 2)}, Rows: [][]int{{2047, 1}, {1, 0}}}
	want = make([]int, api.MaxCells)
	want[1], want[2047], want[2048+1] = 1, 1, 1
	holdRight(t, "MaxCells together", y, join(bins("a"), bins("a", is("b", 0))), api.Bound{Places: api.MaxCells, Moves: 2, Most: api.MaxRows}, want...)
	holdWrong(t, "MaxCells together, and one", y, join(join(bins("a"), bins("a")), count()), api.ErrMuch)
	holdWrong(t, "one, and MaxCells together", y, join(count(), join(bins("a"), bins("a"))), api.ErrMuch)
}

func TestMoves(t *testing.T) {
	const far, most = api.MaxValue, api.MaxAnswer
	full := clamp(0, 0, times(far, moving(far)))
	bound := api.Bound{Places: 1, Moves: most}
	holdRight(t, "moves of MaxAnswer", crowd(), full, bound, 0)
	holdRight(t, "added to what does not move", crowd(), add(full, still(0)), bound, 0)
	holdRight(t, "half and half", crowd(), sub(times(far/2, moving(far)), times(far/2, moving(far))), bound, 0)
	holdRight(t, "less by 1, and 1", crowd(), add(times(far-1, moving(far)), add(moving(far-1), moving(1))), bound, 0)
	holdRight(t, "below 0", crowd(), times(-far, moving(far)), bound, 0)
	holdRight(t, "joined", crowd(), join(full, still(0)), api.Bound{Places: 2, Moves: most}, 0, 0)
	holdRight(t, "times 0", crowd(), times(0, full), api.Bound{Places: 1}, 0)
	for name, a := range map[string]api.Ask{
		"add":             add(full, moving(1)),
		"add ahead":       add(moving(1), full),
		"sub":             sub(full, moving(1)),
		"join":            join(full, moving(1)),
		"times":           times(2, full),
		"times below 0":   times(-2, full),
		"just above":      add(times(far-1, moving(far)), add(moving(far), moving(1))),
		"added to itself": add(full, full),
		"times MaxValue":  times(far, full),
		"times -MaxValue": times(-far, full),
		"in the end 0":    times(0, times(2, full)),
		"clamped":         clamp(0, 0, join(full, moving(1))),
		"a total":         total(join(full, moving(1))),
		"one picked":      pick(0, join(full, moving(1))),
		"of a kid behind": add(still(0), add(full, moving(1))),
		"far above":       times(far, times(far, full)),
	} {
		holdWrong(t, name, crowd(), a, api.ErrMuch)
	}
}

func TestMost(t *testing.T) {
	const far, most = api.MaxValue, api.MaxAnswer
	full := times(far, still(far))
	bound := api.Bound{Places: 1, Most: most}
	holdRight(t, "most of MaxAnswer", crowd(), full, bound, 0)
	holdRight(t, "added to 0", crowd(), add(full, still(0)), bound, 0)
	holdRight(t, "below 0", crowd(), times(-far, still(far)), bound, 0)
	holdRight(t, "joined to as much", crowd(), join(full, full), api.Bound{Places: 2, Most: most}, 0, 0)
	holdRight(t, "one picked", crowd(), pick(1, join(full, full)), bound, 0)
	holdRight(t, "a total of one", crowd(), total(full), bound, 0)
	holdRight(t, "a total of two", crowd(), total(join(times(far/2, still(far)), times(far/2, still(far)))), bound, 0)
	holdRight(t, "clamped", crowd(), clamp(-3, 2, full), api.Bound{Places: 1, Most: 3}, 0)
	holdRight(t, "times 0", crowd(), times(0, full), api.Bound{Places: 1}, 0)
	for name, a := range map[string]api.Ask{
		"add":               add(full, still(1)),
		"add ahead":         add(still(1), full),
		"sub":               sub(full, still(1)),
		"times":             times(2, full),
		"times below 0":     times(-2, full),
		"times MaxValue":    times(far, full),
		"a total":           total(join(full, still(0))),
		"added to itself":   add(full, full),
		"clamped, too late": clamp(0, 0, add(full, still(1))),
		"in the end 0":      times(0, add(full, still(1))),
		"far above":         times(far, times(far, full)),
	} {
		holdWrong(t, name, crowd(), a, api.ErrMuch)
	}
}

// TestWhatFitsNotIntoAWord: products that would be 0, or below 0, if they went round.
func TestWhatFitsNotIntoAWord(t *testing.T) {
	for _, n := range []int{1 << 16, 1 << 20, -1 << 16, -1 << 20, api.MaxValue - 1, 46341, 3} {
		for _, often := range []int{3, 4, 5, 6, 7, 12, 30, 50, 60} {
			moves, most := 1, api.MaxRows
			a, want := count(), api.OK
			for range often {
				a = times(n, a)
				moves, most = moves*max(n, -n), most*max(n, -n)
				if most > api.MaxAnswer {
					want = api.ErrMuch
					moves, most = 0, 0
				}
			}
			if want != api.OK {
				holdWrong(t, "a product", crowd(), a, want)
			} else if b, err := ask.Type(people(), a); err != api.OK || b != (api.Bound{Places: 1, Moves: moves, Most: most}) {
				t.Errorf("Type of %d, %d times, is %v, %d", n, often, b, err)
			}
		}
	}
	wide := api.Table{Columns: []api.Column{c("a", api.MaxCells)}}
	full := times(api.MaxValue, clamp(0, api.MaxValue, times(0, bins("a"))))
	if b, err := ask.Type(wide.Columns, full); err != api.OK || b != (api.Bound{Places: api.MaxCells, Most: api.MaxAnswer}) {
		t.Errorf("Type of MaxCells places of MaxAnswer is %v, %d", b, err)
	}
	holdWrong(t, "a total of them", wide, total(full), api.ErrMuch)
	fits := times(1<<8, clamp(0, api.MaxValue, times(0, bins("a"))))
	holdRight(t, "a total that just fits", wide, total(fits), api.Bound{Places: 1, Most: api.MaxAnswer}, 0)
	holdWrong(t, "a total that just does not", wide, total(times(1<<8+1, fits.Kids[0])), api.ErrMuch)
}

// TestGreatestAnswers: answers that reach their bounds.
func TestGreatestAnswers(t *testing.T) {
	x := api.Table{Columns: people()}
	for range api.MaxRows {
		x.Rows = append(x.Rows, []int{3, 1, 0})
	}
	const far = api.MaxValue
	for _, y := range []rightCase{
		{"count", count(), api.Bound{Places: 1, Moves: 1, Most: api.MaxRows}, []int{api.MaxRows}},
		{"sum", sum("age", far, far), api.Bound{Places: 1, Moves: far, Most: api.MaxRows * far}, []int{api.MaxRows * far}},
		{"sum below 0", sum("age", -far, -far), api.Bound{Places: 1, Moves: far, Most: api.MaxRows * far}, []int{-api.MaxRows * far}},
		{"a product", times(-256, sum("age", far, far)), api.Bound{Places: 1, Moves: 256 * far, Most: api.MaxAnswer}, []int{-api.MaxAnswer}},
		{"a difference", sub(times(-128, sum("age", far, far)), times(128, sum("age", far, far))), api.Bound{Places: 1, Moves: 256 * far, Most: api.MaxAnswer}, []int{-api.MaxAnswer}},
		{"bins", bins("age"), api.Bound{Places: 4, Moves: 1, Most: api.MaxRows}, []int{0, 0, 0, api.MaxRows}},
	} {
		holdRight(t, y.name, x, y.a, y.bound, y.want...)
	}
	holdWrong(t, "a product above MaxAnswer", x, times(257, sum("age", far, far)), api.ErrMuch)
}
