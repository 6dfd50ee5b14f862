package speech_test

import (
	"fmt"
	"reflect"
	"strings"
	"testing"

	"hushhouse/api"
	"hushhouse/speech"
)

func test(column string, do, value int) api.Test {
	return api.Test{Column: column, Do: do, Value: value}
}

func is(column string, value int) api.Test { return test(column, api.TestIs, value) }

func count(where ...api.Test) api.Ask { return api.Ask{Kind: api.AskCount, Where: where} }

func sum(column string, low, high int, where ...api.Test) api.Ask {
	return api.Ask{Kind: api.AskSum, Column: column, Low: low, High: high, Where: where}
}

func bins(column string, where ...api.Test) api.Ask {
	return api.Ask{Kind: api.AskBins, Column: column, Where: where}
}

func two(kind int, x, y api.Ask) api.Ask { return api.Ask{Kind: kind, Kids: []api.Ask{x, y}} }

func add(x, y api.Ask) api.Ask  { return two(api.AskAdd, x, y) }
func sub(x, y api.Ask) api.Ask  { return two(api.AskSub, x, y) }
func join(x, y api.Ask) api.Ask { return two(api.AskJoin, x, y) }

func one(kind, low, high int, x api.Ask) api.Ask {
	return api.Ask{Kind: kind, Low: low, High: high, Kids: []api.Ask{x}}
}

func times(n int, x api.Ask) api.Ask         { return one(api.AskTimes, n, 0, x) }
func total(x api.Ask) api.Ask                { return one(api.AskTotal, 0, 0, x) }
func pick(place int, x api.Ask) api.Ask      { return one(api.AskPick, place, 0, x) }
func clamp(low, high int, x api.Ask) api.Ask { return one(api.AskClamp, low, high, x) }

// repeated lays one question around another, so many times.
func repeated(n int, x api.Ask, around func(api.Ask) api.Ask) api.Ask {
	for range n {
		x = around(x)
	}
	return x
}

// short is the beginning of how a thing is told.
func short(x any) string { return fmt.Sprintf("%.200s", fmt.Sprint(x)) }

// plain is a question with nil for all lists without entries.
func plain(a api.Ask) api.Ask {
	kids := a.Kids
	a.Kids = nil
	if len(a.Where) == 0 {
		a.Where = nil
	}
	for _, kid := range kids {
		a.Kids = append(a.Kids, plain(kid))
	}
	return a
}

func equal(a, b api.Ask) bool { return reflect.DeepEqual(plain(a), plain(b)) }

func empty(a api.Ask) bool { return equal(a, api.Ask{}) }

// holdRead: a text says this question.
func holdRead(t *testing.T, s string, want api.Ask) {
	t.Helper()
	if got, fault := speech.Read(s); fault != (api.Fault{}) || !equal(got, want) {
		t.Errorf("Read of %.200q is %s, %v, not %s", s, short(got), fault, short(want))
	}
}

// holdFault: this is wrong with a text, and nothing else is told.
func holdFault(t *testing.T, s string, err api.Errno, at int) {
	t.Helper()
	if got, fault := speech.Read(s); fault != (api.Fault{Err: err, At: at}) || !empty(got) {
		t.Errorf("Read of %.200q is %s, %v, not %d at %d", s, short(got), fault, err, at)
	}
}

type textCase struct {
	s    string
	want api.Ask
}

func TestReadThings(t *testing.T) {
	long := strings.Repeat("z", 32)
	for _, x := range []textCase{
		{"count", count()},
		{"count where a = 1", count(is("a", 1))},
		{"count where a = 1 and a = 2 and b = 0", count(is("a", 1), is("a", 2), is("b", 0))},
		{"count where a = -1", count(is("a", -1))},
		{"count where a < 1 and a <= 2 and a > 3 and a >= 4 and a <> 5 and a = 6", count(
			test("a", api.TestLess, 1), test("a", api.TestMost, 2), test("a", api.TestMore, 3),
			test("a", api.TestLeast, 4), test("a", api.TestNot, 5), is("a", 6))},
		{"bins age", bins("age")},
		{"bins age where age <> 2", bins("age", test("age", api.TestNot, 2))},
		{"sum age in 0..3", sum("age", 0, 3)},
		{"sum age in -4..-3", sum("age", -4, -3)},
		{"sum age in 3..-3", sum("age", 3, -3)}, // whether a span has anything in it is not asked here
		{"sum age in 2..2 where b = 1", sum("age", 2, 2, is("b", 1))},
		{"total (count)", total(count())},
		{"clamp -1..1 (bins a)", clamp(-1, 1, bins("a"))},
		{"clamp 1..0 (count)", clamp(1, 0, count())},
		{"join (count, bins a)", join(count(), bins("a"))},
		{"(count)", count()},
		{"(((count)))", count()},
		{"total ((count))", total(count())},
		// names
		{"bins " + long, bins(long)},
		{"bins _", bins("_")},
		{"bins counts where wheres = 1 and sums = 2", bins("counts", is("wheres", 1), is("sums", 2))},
		{"bins countwhere", bins("countwhere")},
		{"bins a_b", bins("a_b")},
		// numbers
		{"count where a = 0", count(is("a", 0))},
		{"count where a = 1048576 and a = -1048576", count(is("a", api.MaxValue), is("a", -api.MaxValue))},
		{"sum a in -1048576..1048576", sum("a", -api.MaxValue, api.MaxValue)},
		{"0 * count", times(0, count())},
		{"-1048576 * count", times(-api.MaxValue, count())},
		{"count[0]", pick(0, count())},
		{"count[1048576]", pick(api.MaxValue, count())},
	} {
		holdRead(t, x.s, x.want)
	}
}

func TestReadMadeOfOthers(t *testing.T) {
	a, b, c := bins("a"), bins("b"), bins("c")
	for _, x := range []textCase{
		// sums, from the left on
		{"bins a + bins b", add(a, b)},
		{"bins a - bins b", sub(a, b)},
		{"bins a - bins b - bins c", sub(sub(a, b), c)},
		{"bins a - bins b + bins c", add(sub(a, b), c)},
		{"bins a - (bins b + bins c)", sub(a, add(b, c))},
		{"(bins a - bins b) - bins c", sub(sub(a, b), c)},
		{"bins a + (bins b)", add(a, b)},
		// products bind closer
		{"2 * bins a + bins b", add(times(2, a), b)},
		{"bins a - 2 * bins b", sub(a, times(2, b))},
		{"bins a - -2 * bins b", sub(a, times(-2, b))},
		{"bins a - - 2 * bins b", sub(a, times(-2, b))},
		{"2 * (bins a + bins b)", times(2, add(a, b))},
		{"2 * 3 * bins a", times(2, times(3, a))},
		{"2 * (3 * bins a)", times(2, times(3, a))},
		{"-2 * -3 * bins a - bins b", sub(times(-2, times(-3, a)), b)},
		// picks bind closest
		{"bins a[1]", pick(1, a)},
		{"bins a[1][0]", pick(0, pick(1, a))},
		{"2 * bins a[1]", times(2, pick(1, a))},
		{"(2 * bins a)[1]", pick(1, times(2, a))},
		{"bins a + bins b[1]", add(a, pick(1, b))},
		{"(bins a + bins b)[1]", pick(1, add(a, b))},
		{"bins a[1] + bins b", add(pick(1, a), b)},
		{"total (bins a)[0]", pick(0, total(a))},
		{"total (bins a[0])", total(pick(0, a))},
		{"join (bins a, bins b)[2]", pick(2, join(a, b))},
		{"clamp 0..1 (bins a)[2]", pick(2, clamp(0, 1, a))},
		// what stands behind tests
		{"bins a where b = 1[2]", pick(2, bins("a", is("b", 1)))},
		{"count where a = 1 + bins b", add(count(is("a", 1)), b)},
		{"count where a = 1 - bins b", sub(count(is("a", 1)), b)},
		{"count where a = 1 - 2 * bins b", sub(count(is("a", 1)), times(2, b))},
		{"count where a = - 1 - bins b", sub(count(is("a", -1)), b)},
		{"join (count where a = 1, bins b where c = 2)", join(count(is("a", 1)), bins("b", is("c", 2)))},
		// questions in brackets are whole ones
		{"total (bins a + 2 * bins b)", total(add(a, times(2, b)))},
		{"clamp 0..9 (bins a - bins b)", clamp(0, 9, sub(a, b))},
		{"join (bins a + bins b, bins b - bins c)", join(add(a, b), sub(b, c))},
		{"join (join (bins a, bins b), join (bins b, bins c))", join(join(a, b), join(b, c))},
		{"3*-2 * (count - bins a + join(total(count),clamp 0..9 (count)))[1]",
			times(3, times(-2, pick(1, add(sub(count(), a), join(total(count()), clamp(0, 9, count()))))))},
	} {
		holdRead(t, x.s, x.want)
	}
}

// TestSpaces: between pieces stands what there may be, or nothing; some runs would be one without it.
func TestSpaces(t *testing.T) {
	want := add(pick(1, join(sum("a", -1, 2, test("b", api.TestMost, -3)), times(-4, count()))), clamp(0, 1, total(bins("c"))))
	list := []string{"join", "(", "sum ", "a ", "in", "-", "1", "..", "2", "where ", "b", "<=", "-", "3", ",", "-", "4", "*", "count", ")", "[", "1", "]", "+", "clamp", "0", "..", "1", "(", "total", "(", "bins ", "c", ")", ")"}
	for _, gap := range []string{"", " ", "\n", "  ", " \n\n ", strings.Repeat(" ", 1000)} {
		holdRead(t, strings.Join(list, gap), want)
		holdRead(t, gap+strings.Join(list, gap)+gap, want)
	}
	for _, s := range []string{"bins\na", "bins \n a", "\nbins a\n", "bins a ", " bins a"} {
		holdRead(t, s, bins("a"))
	}
	holdRead(t, "sum a in1..2where b=3", sum("a", 1, 2, is("b", 3)))
	holdRead(t, "count where a=1and b=2", count(is("a", 1), is("b", 2)))
	holdFault(t, "countwhere a=1", api.ErrForm, 0)
	holdFault(t, "binsa", api.ErrForm, 0)
	holdFault(t, "count where a=1andb=2", api.ErrForm, 15)
	holdFault(t, "1 0*count", api.ErrForm, 2)
	holdFault(t, "bins a b", api.ErrForm, 7)
}
