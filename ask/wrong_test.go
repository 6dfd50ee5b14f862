package ask_test

import (
	"math"
	"slices"
	"testing"

	"hushhouse/api"
	"hushhouse/ask"
)

type wrongCase struct {
	name string
	a    api.Ask
	want api.Errno
}

func testWrong(t *testing.T, cases []wrongCase) {
	t.Helper()
	for _, x := range cases {
		holdWrong(t, x.name, crowd(), x.a, x.want)
		// wherever it stands
		holdWrong(t, x.name+", as a kid", crowd(), total(x.a), x.want)
		holdWrong(t, x.name+", as a first kid", crowd(), join(x.a, count()), x.want)
		holdWrong(t, x.name+", as a second kid", crowd(), join(count(), x.a), x.want)
	}
}

func TestKinds(t *testing.T) {
	var cases []wrongCase
	for _, kind := range []int{0, 11, 12, -1, -10, 99, 1 << 32, 1<<32 + 1, math.MinInt, math.MaxInt} {
		for n := range 4 {
			cases = append(cases, wrongCase{"a kind", api.Ask{Kind: kind, Column: "age", Kids: slices.Repeat([]api.Ask{count()}, n)}, api.ErrKind})
		}
	}
	testWrong(t, cases)
}

func TestNumbersOfKids(t *testing.T) {
	kids := map[int]int{
		api.AskCount: 0, api.AskSum: 0, api.AskBins: 0,
		api.AskTimes: 1, api.AskTotal: 1, api.AskPick: 1, api.AskClamp: 1,
		api.AskAdd: 2, api.AskSub: 2, api.AskJoin: 2,
	}
	for kind, right := range kids {
		for _, n := range []int{0, 1, 2, 3, 4, 100} {
			a := api.Ask{Kind: kind, Column: "age", Kids: slices.Repeat([]api.Ask{count()}, n)}
			if n != right {
				testWrong(t, []wrongCase{{"kids", a, api.ErrMany}})
			} else if _, err := ask.Type(people(), a); err != api.OK {
				t.Errorf("Type of the kind %d with %d kids is %d", kind, n, err)
			}
		}
	}
}

func TestNames(t *testing.T) {
	var cases []wrongCase
	for _, name := range []string{"", "none", "ag", "agee", "Age", " age", "age:4", "a\x00", "\xff"} {
		cases = append(cases,
			wrongCase{"a sum's column", sum(name, 0, 1), api.ErrName},
			wrongCase{"a bins' column", bins(name), api.ErrName},
			wrongCase{"a test's column", count(is(name, 0)), api.ErrName},
			wrongCase{"a sum's test's column", sum("age", 0, 1, is(name, 0)), api.ErrName},
			wrongCase{"a bins' test's column", bins("age", is(name, 0)), api.ErrName},
			wrongCase{"the second test's column", count(is("age", 0), is(name, 0)), api.ErrName},
		)
	}
	testWrong(t, cases)
}

func TestKindsOfTests(t *testing.T) {
	var cases []wrongCase
	for _, do := range []int{0, 7, -1, 99, 1<<32 + 1, math.MinInt, math.MaxInt} {
		bad := test("age", do, 0)
		cases = append(cases,
			wrongCase{"a count's test", count(bad), api.ErrKind},
			wrongCase{"a sum's test", sum("age", 0, 1, bad), api.ErrKind},
			wrongCase{"a bins' test", bins("age", bad), api.ErrKind},
			wrongCase{"the last test", count(append(slices.Repeat([]api.Test{is("age", 1)}, api.MaxAsk-1), bad)...), api.ErrKind},
		)
	}
	testWrong(t, cases)
}

func TestPlacesThatFitNot(t *testing.T) {
	for _, kind := range []int{api.AskAdd, api.AskSub} {
		testWrong(t, []wrongCase{
			{"1 and 4", two(kind, count(), bins("age")), api.ErrFit},
			{"4 and 1", two(kind, bins("age"), count()), api.ErrFit},
			{"4 and 2", two(kind, bins("age"), bins("sex")), api.ErrFit},
			{"4 and 5", two(kind, bins("age"), join(count(), bins("age"))), api.ErrFit},
		})
	}
}

// TestOrderOfErrors: the first one is told in the order in which K2 names them.
func TestOrderOfErrors(t *testing.T) {
	bad, much := test("none", 99, 0), slices.Repeat([]api.Test{test("none", 99, 0)}, api.MaxAsk+1)
	none, lonely := api.Ask{Kind: 99}, api.Ask{Kind: api.AskAdd, Column: "none"}
	full := times(api.MaxValue, moving(api.MaxValue))
	with := func(kind int, kids ...api.Ask) api.Ask {
		return api.Ask{Kind: kind, Column: "none", Low: math.MaxInt, High: math.MinInt, Where: much, Kids: kids}
	}
	testWrong(t, []wrongCase{
		// a question ahead of its kids
		{"a kind and kids that are wrong", with(11, none, lonely, none), api.ErrKind},
		{"kids too many, one of them a kind that is none", with(api.AskTotal, none, none), api.ErrMany},
		{"kids too few, one of them a kind that is none", with(api.AskAdd, none), api.ErrMany},
		{"a kid too many of a question that has none", with(api.AskCount, none), api.ErrMany},
		{"a kid too many, and all fields", with(api.AskSum, count()), api.ErrMany},
		{"a kid too many, and its column", with(api.AskBins, count()), api.ErrMany},
		// kids in order, each with all that is said of it, ahead of what is said of the question behind them
		{"the first kid's name ahead of the second one's kind", with(api.AskAdd, bins("none"), none), api.ErrName},
		{"the first kid's span ahead of the second one's kind", with(api.AskJoin, sum("age", 1, 0), none), api.ErrRange},
		{"the first kid's fit ahead of the second one's kids", with(api.AskSub, add(count(), bins("age")), lonely), api.ErrFit},
		{"the first kid's much ahead of the second one's kind", with(api.AskAdd, times(2, full), none), api.ErrMuch},
		{"the first kid's test ahead of the second one's kind", with(api.AskAdd, count(is("none", 0)), lonely), api.ErrName},
		{"the second kid's kind ahead of the fit", with(api.AskAdd, bins("age"), none), api.ErrKind},
		{"the kid's kind ahead of the factor", with(api.AskTimes, none), api.ErrKind},
		{"the kid's name ahead of the place", with(api.AskPick, bins("none")), api.ErrName},
		{"the kid's kids ahead of the span", with(api.AskClamp, lonely), api.ErrMany},
		{"the kid's fit ahead of the span", with(api.AskClamp, add(count(), bins("age"))), api.ErrFit},
		{"a kid's kid ahead of the kid", with(api.AskClamp, with(api.AskTimes, bins("none"))), api.ErrName},
		{"a kid ahead of what is above it", with(api.AskClamp, with(api.AskTimes, count())), api.ErrRange},
		{"a kid's kid ahead of the next kid", add(total(bins("none")), none), api.ErrName},
		// of itself
		{"a column ahead of a span", with(api.AskSum), api.ErrName},
		{"a span ahead of too many tests", sum("age", 1, 0, much...), api.ErrRange},
		{"a column ahead of too many tests", bins("none", much...), api.ErrName},
		{"a column ahead of a test", bins("none", test("age", 99, 0)), api.ErrName},
		{"a span ahead of a test", sum("age", 0, api.MaxValue+1, bad), api.ErrRange},
		{"too many tests ahead of them", count(much...), api.ErrMuch},
		{"too many tests of a sum ahead of them", sum("age", 0, 1, much...), api.ErrMuch},
		{"a test's column ahead of what it does", count(bad), api.ErrName},
		{"what a test does ahead of the next one's column", count(test("age", 99, 0), is("none", 0)), api.ErrKind},
		{"a test's column ahead of what the next one does", count(is("none", 0), test("age", 99, 0)), api.ErrName},
		{"a right test ahead of both", count(is("age", 0), test("sex", 0, 0), bad), api.ErrKind},
		{"a factor ahead of much", times(api.MaxValue+1, full), api.ErrRange},
		{"a factor below ahead of much", times(-api.MaxValue-1, full), api.ErrRange},
		{"a fit ahead of much", add(full, join(full, still(0))), api.ErrFit},
	})
}

// TestLevelAheadOfAll: on level 65 nothing else is told of a question; on level 64 all is.
func TestLevelAheadOfAll(t *testing.T) {
	none, lonely := api.Ask{Kind: 99}, api.Ask{Kind: api.AskAdd}
	for _, x := range []struct {
		name string
		a    api.Ask
		want api.Errno
	}{
		{"a kind", none, api.ErrKind},
		{"kids", lonely, api.ErrMany},
		{"a name", bins("none"), api.ErrName},
		{"a span", sum("age", 1, 0), api.ErrRange},
		{"a test", count(test("age", 0, 0)), api.ErrKind},
	} {
		holdWrong(t, x.name+" on level 64", crowd(), high(api.MaxAsk, x.a), x.want)
		holdWrong(t, x.name+" on level 65", crowd(), high(api.MaxAsk+1, x.a), api.ErrMuch)
		// whichever comes first on the way through the kids
		holdWrong(t, x.name+" ahead of level 65", crowd(), add(x.a, high(api.MaxAsk, count())), x.want)
		holdWrong(t, x.name+" behind level 65", crowd(), add(high(api.MaxAsk, count()), x.a), api.ErrMuch)
	}
	// a kid on level 65 comes behind the kind and the kids of the question above it, and ahead of the rest
	at64 := func(kind int, kids ...api.Ask) api.Ask {
		return high(api.MaxAsk, api.Ask{Kind: kind, Low: math.MaxInt, Kids: kids})
	}
	holdWrong(t, "a kind above level 65", crowd(), at64(99, count()), api.ErrKind)
	holdWrong(t, "kids above level 65", crowd(), at64(api.AskTotal, count(), count()), api.ErrMany)
	holdWrong(t, "a factor above level 65", crowd(), at64(api.AskTimes, count()), api.ErrMuch)
	holdWrong(t, "a place above level 65", crowd(), at64(api.AskPick, count()), api.ErrMuch)
}

// wrongColumns are columns that are wrong, and what is wrong.
func wrongColumns() map[string]struct {
	l    []api.Column
	want api.Errno
} {
	return map[string]struct {
		l    []api.Column
		want api.Errno
	}{
		"nil":            {nil, api.ErrMany},
		"none":           {[]api.Column{}, api.ErrMany},
		"seven":          {[]api.Column{c("a", 1), c("b", 1), c("c", 1), c("d", 1), c("e", 1), c("f", 1), c("g", 1)}, api.ErrMany},
		"a form":         {[]api.Column{c("age", 4), c("S", 1)}, api.ErrForm},
		"a name twice":   {[]api.Column{c("age", 4), c("age", 4)}, api.ErrName},
		"a Size of 0":    {[]api.Column{c("age", 0)}, api.ErrRange},
		"a Size too big": {[]api.Column{c("age", api.MaxCells+1)}, api.ErrRange},
		"the product":    {[]api.Column{c("age", api.MaxCells), c("sex", 2)}, api.ErrMuch},
	}
}

func TestColumnsAheadOfQuestions(t *testing.T) {
	for name, x := range wrongColumns() {
		for _, a := range []api.Ask{count(is("age", 1)), bins("age"), {}, {Kind: api.AskAdd}, bins("none"), high(api.MaxAsk+1, count())} {
			if b, err := ask.Type(x.l, a); err != x.want || b != (api.Bound{}) {
				t.Errorf("%s: Type is %v, %d, not %d", name, b, err, x.want)
			}
			if l, err := ask.Run(api.Table{Columns: x.l, Rows: [][]int{{9}}}, a); err != x.want || len(l) != 0 {
				t.Errorf("%s: Run is %v, %d, not %d", name, l, err, x.want)
			}
			for _, column := range []string{"age", "none"} {
				if v, err := ask.Part(x.l, a, column); err != x.want || v != 0 {
					t.Errorf("%s: Part is %v, %d, not %d", name, v, err, x.want)
				}
			}
		}
	}
}

func TestTablesAheadOfQuestions(t *testing.T) {
	for name, x := range map[string]struct {
		rows [][]int
		want api.Errno
	}{
		"a row too short":   {[][]int{{0, 0, 0}, {0, 0}}, api.ErrFit},
		"a row too long":    {[][]int{{0, 0, 0, 0}}, api.ErrFit},
		"a nil row":         {[][]int{nil}, api.ErrFit},
		"a value below 0":   {[][]int{{0, -1, 0}}, api.ErrRange},
		"a value too great": {[][]int{{0, 0, 0}, {4, 0, 0}}, api.ErrRange},
		"the least value":   {[][]int{{math.MinInt, 0, 0}}, api.ErrRange},
		"too many rows":     {slices.Repeat([][]int{{0, 0, 0}}, api.MaxRows+1), api.ErrMuch},
	} {
		for _, a := range []api.Ask{count(), bins("age"), sum("age", 0, 1), {}, {Kind: api.AskAdd}, bins("none"), high(api.MaxAsk+1, count())} {
			if l, err := ask.Run(api.Table{Columns: people(), Rows: x.rows}, a); err != x.want || len(l) != 0 {
				t.Errorf("%s: Run of %s is %v, %d, not %d", name, short(a), l, err, x.want)
			}
		}
	}
}
