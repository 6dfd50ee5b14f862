package ask_test

import (
	"fmt"
	"math"
	"slices"
	"testing"

	"hushhouse/api"
	"hushhouse/ask"
)

// c is a column.
func c(name string, size int) api.Column { return api.Column{Name: name, Size: size} }

// people are columns with few cells.
func people() []api.Column { return []api.Column{c("age", 4), c("sex", 2), c("one", 1)} }

// crowd is a table with five people.
func crowd() api.Table {
	return api.Table{Columns: people(), Rows: [][]int{{3, 1, 0}, {0, 0, 0}, {2, 1, 0}, {2, 0, 0}, {1, 1, 0}}}
}

// test is a test of what a column's value is.
func test(column string, do, value int) api.Test {
	return api.Test{Column: column, Do: do, Value: value}
}

func is(column string, value int) api.Test { return test(column, api.TestIs, value) }

func count(where ...api.Test) api.Ask { return api.Ask{Kind: api.AskCount, Where: where} }

func sum(column string, low, high int, where ...api.Test) api.Ask {
	return api.Ask{Kind: api.AskSum, Column: column, Low: low, High: high, Where: where}
}

func bins(column string, where ...api.Test) api.Ask {
	return api.Ask{Kind: api.AskBins, Column: column, Where: where}
}

func two(kind int, x, y api.Ask) api.Ask { return api.Ask{Kind: kind, Kids: []api.Ask{x, y}} }

func add(x, y api.Ask) api.Ask  { return two(api.AskAdd, x, y) }
func sub(x, y api.Ask) api.Ask  { return two(api.AskSub, x, y) }
func join(x, y api.Ask) api.Ask { return two(api.AskJoin, x, y) }

func one(kind, low, high int, x api.Ask) api.Ask {
	return api.Ask{Kind: kind, Low: low, High: high, Kids: []api.Ask{x}}
}

func times(n int, x api.Ask) api.Ask         { return one(api.AskTimes, n, 0, x) }
func total(x api.Ask) api.Ask                { return one(api.AskTotal, 0, 0, x) }
func pick(place int, x api.Ask) api.Ask      { return one(api.AskPick, place, 0, x) }
func clamp(low, high int, x api.Ask) api.Ask { return one(api.AskClamp, low, high, x) }

// high is a question that reaches down so many levels.
func high(levels int, x api.Ask) api.Ask {
	for range levels - 1 {
		x = total(x)
	}
	return x
}

// short is the beginning of how a thing is told.
func short(x any) string { return fmt.Sprintf("%.200s", fmt.Sprint(x)) }

// holdWrong: all that is asked of a question tells this error, and nothing else.
func holdWrong(t *testing.T, name string, x api.Table, a api.Ask, want api.Errno) {
	t.Helper()
	if b, err := ask.Type(x.Columns, a); err != want || b != (api.Bound{}) {
		t.Errorf("%s: Type of %s is %v, %d, not %d", name, short(a), b, err, want)
	}
	if l, err := ask.Run(x, a); err != want || len(l) != 0 {
		t.Errorf("%s: Run of %s is %s, %d, not %d", name, short(a), short(l), err, want)
	}
	for _, column := range []string{x.Columns[0].Name, "none"} {
		if v, err := ask.Part(x.Columns, a, column); err != want || v != 0 {
			t.Errorf("%s: Part of %s is %d, %d, not %d", name, short(a), v, err, want)
		}
	}
}

// holdRight: a question has this bound and this answer.
func holdRight(t *testing.T, name string, x api.Table, a api.Ask, bound api.Bound, want ...int) {
	t.Helper()
	if b, err := ask.Type(x.Columns, a); err != api.OK || b != bound {
		t.Errorf("%s: Type of %s is %v, %d, not %v", name, short(a), b, err, bound)
	}
	if l, err := ask.Run(x, a); err != api.OK || !slices.Equal(l, want) {
		t.Errorf("%s: Run of %s is %s, %d, not %s", name, short(a), short(l), err, short(want))
	}
}

type rightCase struct {
	name  string
	a     api.Ask
	bound api.Bound
	want  []int
}

func TestQuestionsWithoutKids(t *testing.T) {
	const most = api.MaxRows
	for _, x := range []rightCase{
		{"all", count(), api.Bound{Places: 1, Moves: 1, Most: most}, []int{5}},
		{"some", count(is("sex", 1)), api.Bound{Places: 1, Moves: 1, Most: most}, []int{3}},
		{"fewer", count(is("sex", 1), test("age", api.TestMore, 1)), api.Bound{Places: 1, Moves: 1, Most: most}, []int{2}},
		{"the last test alone fails", count(is("sex", 1), is("one", 0), is("age", 9)), api.Bound{Places: 1, Moves: 1, Most: most}, []int{0}},
		{"the first test alone fails", count(is("age", 9), is("one", 0)), api.Bound{Places: 1, Moves: 1, Most: most}, []int{0}},
		{"two tests of a column that don't go together", count(is("age", 2), is("age", 3)), api.Bound{Places: 1, Moves: 1, Most: most}, []int{0}},
		{"one test twice", count(is("age", 2), is("age", 2)), api.Bound{Places: 1, Moves: 1, Most: most}, []int{2}},

		{"a sum", sum("age", 0, 3), api.Bound{Places: 1, Moves: 3, Most: 3 * most}, []int{8}},
		{"a sum of another column", sum("sex", 0, 3), api.Bound{Places: 1, Moves: 3, Most: 3 * most}, []int{3}},
		{"values below Low", sum("age", 2, 3), api.Bound{Places: 1, Moves: 3, Most: 3 * most}, []int{3 + 2 + 2 + 2 + 2}},
		{"values above High", sum("age", 0, 1), api.Bound{Places: 1, Moves: 1, Most: most}, []int{4}},
		{"both", sum("age", 1, 2), api.Bound{Places: 1, Moves: 2, Most: 2 * most}, []int{2 + 1 + 2 + 2 + 1}},
		{"all below Low", sum("age", 7, 9), api.Bound{Places: 1, Moves: 9, Most: 9 * most}, []int{35}},
		{"all above High", sum("age", -9, -7), api.Bound{Places: 1, Moves: 9, Most: 9 * most}, []int{-35}},
		{"Low is further from 0", sum("age", -9, 7), api.Bound{Places: 1, Moves: 9, Most: 9 * most}, []int{8}},
		{"High is further from 0", sum("age", -7, 9), api.Bound{Places: 1, Moves: 9, Most: 9 * most}, []int{8}},
		{"both as far", sum("age", -9, 9), api.Bound{Places: 1, Moves: 9, Most: 9 * most}, []int{8}},
		{"Low is High", sum("age", 2, 2), api.Bound{Places: 1, Moves: 2, Most: 2 * most}, []int{10}},
		{"both are 0", sum("age", 0, 0), api.Bound{Places: 1}, []int{0}},
		{"a sum of some", sum("age", 1, 2, is("sex", 0)), api.Bound{Places: 1, Moves: 2, Most: 2 * most}, []int{3}},
		{"a sum of rows none of which passes", sum("age", 7, 9, is("sex", 2)), api.Bound{Places: 1, Moves: 9, Most: 9 * most}, []int{0}},

		{"bins", bins("age"), api.Bound{Places: 4, Moves: 1, Most: most}, []int{1, 1, 2, 1}},
		{"bins of another column", bins("sex"), api.Bound{Places: 2, Moves: 1, Most: most}, []int{2, 3}},
		{"bins of one value", bins("one"), api.Bound{Places: 1, Moves: 1, Most: most}, []int{5}},
		{"bins of some", bins("age", is("sex", 1)), api.Bound{Places: 4, Moves: 1, Most: most}, []int{0, 1, 1, 1}},
		{"bins with a test of the column", bins("age", test("age", api.TestNot, 2)), api.Bound{Places: 4, Moves: 1, Most: most}, []int{1, 1, 0, 1}},
		{"bins of rows none of which passes", bins("age", is("one", 1)), api.Bound{Places: 4, Moves: 1, Most: most}, []int{0, 0, 0, 0}},
	} {
		holdRight(t, x.name, crowd(), x.a, x.bound, x.want...)
	}
}

func TestQuestionsWithKids(t *testing.T) {
	const most = api.MaxRows
	ages, girls := bins("age"), bins("age", is("sex", 1))
	for _, x := range []rightCase{
		{"add", add(ages, girls), api.Bound{Places: 4, Moves: 2, Most: 2 * most}, []int{1, 2, 3, 2}},
		{"add of one place", add(sum("age", 0, 3), count()), api.Bound{Places: 1, Moves: 4, Most: 4 * most}, []int{13}},
		{"sub", sub(ages, girls), api.Bound{Places: 4, Moves: 2, Most: 2 * most}, []int{1, 0, 1, 0}},
		{"sub, below 0", sub(girls, ages), api.Bound{Places: 4, Moves: 2, Most: 2 * most}, []int{-1, 0, -1, 0}},
		{"sub of one and itself", sub(ages, ages), api.Bound{Places: 4, Moves: 2, Most: 2 * most}, []int{0, 0, 0, 0}},
		{"add of other kinds, as many places", add(bins("sex"), join(count(), sum("age", 0, 2))), api.Bound{Places: 2, Moves: 4, Most: 3 * most}, []int{7, 10}},

		{"times", times(3, ages), api.Bound{Places: 4, Moves: 3, Most: 3 * most}, []int{3, 3, 6, 3}},
		{"times below 0", times(-3, ages), api.Bound{Places: 4, Moves: 3, Most: 3 * most}, []int{-3, -3, -6, -3}},
		{"times 0", times(0, ages), api.Bound{Places: 4}, []int{0, 0, 0, 0}},
		{"times 1", times(1, ages), api.Bound{Places: 4, Moves: 1, Most: most}, []int{1, 1, 2, 1}},
		{"times of times", times(-2, times(-5, sum("age", 0, 3))), api.Bound{Places: 1, Moves: 30, Most: 30 * most}, []int{80}},

		{"join", join(girls, bins("sex")), api.Bound{Places: 6, Moves: 2, Most: most}, []int{0, 1, 1, 1, 2, 3}},
		{"join, x's most is greater", join(sum("age", 0, 3), ages), api.Bound{Places: 5, Moves: 4, Most: 3 * most}, []int{8, 1, 1, 2, 1}},
		{"join, y's most is greater", join(ages, sum("age", 0, 3)), api.Bound{Places: 5, Moves: 4, Most: 3 * most}, []int{1, 1, 2, 1, 8}},
		{"join of joins", join(join(count(), bins("sex")), join(bins("sex"), count())), api.Bound{Places: 6, Moves: 4, Most: most}, []int{5, 2, 3, 2, 3, 5}},

		{"total", total(girls), api.Bound{Places: 1, Moves: 1, Most: 4 * most}, []int{3}},
		{"total of one place", total(count()), api.Bound{Places: 1, Moves: 1, Most: most}, []int{5}},
		{"total of what is below 0", total(sub(girls, ages)), api.Bound{Places: 1, Moves: 2, Most: 8 * most}, []int{-2}},

		{"the first place", pick(0, girls), api.Bound{Places: 1, Moves: 1, Most: most}, []int{0}},
		{"a place between", pick(2, ages), api.Bound{Places: 1, Moves: 1, Most: most}, []int{2}},
		{"the last place", pick(5, join(ages, bins("sex"))), api.Bound{Places: 1, Moves: 2, Most: most}, []int{3}},

		{"clamp", clamp(1, 1, ages), api.Bound{Places: 4, Moves: 1, Most: 1}, []int{1, 1, 1, 1}},
		{"clamp from below", clamp(2, 9, ages), api.Bound{Places: 4, Moves: 1, Most: 9}, []int{2, 2, 2, 2}},
		{"clamp from above", clamp(-9, 1, ages), api.Bound{Places: 4, Moves: 1, Most: 9}, []int{1, 1, 1, 1}},
		{"clamp of some", clamp(0, 3, join(count(), times(-1, girls))), api.Bound{Places: 5, Moves: 2, Most: 3}, []int{3, 0, 0, 0, 0}},
		{"clamp that changes nothing", clamp(-5000, 5000, ages), api.Bound{Places: 4, Moves: 1, Most: 5000}, []int{1, 1, 2, 1}},
		{"clamp below 0", clamp(-8, -2, ages), api.Bound{Places: 4, Moves: 1, Most: 8}, []int{-2, -2, -2, -2}},
		{"clamp to 0", clamp(0, 0, times(7, ages)), api.Bound{Places: 4, Moves: 7}, []int{0, 0, 0, 0}},

		{"x and y are not exchanged", sub(join(count(), times(2, count())), join(sum("age", 0, 3), count(is("age", 2)))), api.Bound{Places: 2, Moves: 7, Most: 5 * most}, []int{-3, 8}},
	} {
		holdRight(t, x.name, crowd(), x.a, x.bound, x.want...)
	}
}

// TestTests holds each kind of test against values below, at and above each value of a column.
func TestTests(t *testing.T) {
	for do, holds := range map[int]func(v, w int) bool{
		api.TestIs:    func(v, w int) bool { return v == w },
		api.TestLess:  func(v, w int) bool { return v < w },
		api.TestMost:  func(v, w int) bool { return v <= w },
		api.TestMore:  func(v, w int) bool { return v > w },
		api.TestLeast: func(v, w int) bool { return v >= w },
		api.TestNot:   func(v, w int) bool { return v != w },
	} {
		for _, w := range []int{math.MinInt, -api.MaxValue, -1, 0, 1, 2, 3, 4, 5, api.MaxValue, math.MaxInt} {
			x := api.Table{Columns: people()}
			want := make([]int, 4)
			for v := range 4 {
				x.Rows = append(x.Rows, []int{v, 0, 0})
				if holds(v, w) {
					want[v] = 1
				}
			}
			holdRight(t, "a test", x, bins("age", test("age", do, w)), api.Bound{Places: 4, Moves: 1, Most: api.MaxRows}, want...)
		}
	}
}

// TestFieldsThatMeanNothing: whatever stands in a field that a kind does not use, nothing comes of it.
func TestFieldsThatMeanNothing(t *testing.T) {
	const most = api.MaxRows
	wrong := slices.Repeat([]api.Test{test("none", 99, 1)}, api.MaxAsk+1)
	with := func(a api.Ask, column string, low, high int, where []api.Test) api.Ask {
		a.Column, a.Low, a.High, a.Where = column, low, high, where
		return a
	}
	least, greatest := math.MinInt, math.MaxInt
	kids := bins("age", is("sex", 1))
	for _, x := range []rightCase{
		{"count", with(count(), "none", greatest, least, nil), api.Bound{Places: 1, Moves: 1, Most: most}, []int{5}},
		{"bins", with(bins("age"), "age", greatest, least, nil), api.Bound{Places: 4, Moves: 1, Most: most}, []int{1, 1, 2, 1}},
		{"add", with(add(kids, kids), "none", greatest, least, wrong), api.Bound{Places: 4, Moves: 2, Most: 2 * most}, []int{0, 2, 2, 2}},
		{"sub", with(sub(kids, kids), "none", greatest, least, wrong), api.Bound{Places: 4, Moves: 2, Most: 2 * most}, []int{0, 0, 0, 0}},
		{"times", with(times(2, kids), "none", 2, least, wrong), api.Bound{Places: 4, Moves: 2, Most: 2 * most}, []int{0, 2, 2, 2}},
		{"join", with(join(kids, count()), "none", greatest, least, wrong), api.Bound{Places: 5, Moves: 2, Most: most}, []int{0, 1, 1, 1, 5}},
		{"total", with(total(kids), "none", greatest, least, wrong), api.Bound{Places: 1, Moves: 1, Most: 4 * most}, []int{3}},
		{"pick", with(pick(1, kids), "none", 1, least, wrong), api.Bound{Places: 1, Moves: 1, Most: most}, []int{1}},
		{"clamp", with(clamp(2, 3, kids), "none", 2, 3, wrong), api.Bound{Places: 4, Moves: 1, Most: 3}, []int{2, 2, 2, 2}},
	} {
		holdRight(t, x.name, crowd(), x.a, x.bound, x.want...)
	}
}

func TestNoRows(t *testing.T) {
	x := api.Table{Columns: people()}
	const most = api.MaxRows
	for _, y := range []rightCase{
		{"count", count(), api.Bound{Places: 1, Moves: 1, Most: most}, []int{0}},
		{"sum", sum("age", 5, 9), api.Bound{Places: 1, Moves: 9, Most: 9 * most}, []int{0}},
		{"bins", bins("age"), api.Bound{Places: 4, Moves: 1, Most: most}, []int{0, 0, 0, 0}},
		{"clamp", clamp(2, 3, bins("sex")), api.Bound{Places: 2, Moves: 1, Most: 3}, []int{2, 2}},
		{"total", total(bins("age")), api.Bound{Places: 1, Moves: 1, Most: 4 * most}, []int{0}},
	} {
		holdRight(t, y.name, x, y.a, y.bound, y.want...)
	}
}

// TestOrderOfRows: it means nothing.
func TestOrderOfRows(t *testing.T) {
	x := crowd()
	a := join(sum("age", 1, 2, is("sex", 1)), join(bins("age"), count(is("sex", 0))))
	want, _ := ask.Run(x, a)
	slices.Reverse(x.Rows)
	if got, err := ask.Run(x, a); err != api.OK || !slices.Equal(got, want) {
		t.Errorf("Run is %v, %d, not %v", got, err, want)
	}
}
