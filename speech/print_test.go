package speech_test

import (
	"math"
	"slices"
	"strings"
	"testing"

	"hushhouse/api"
	"hushhouse/speech"
)

// holdPrint: a question is written so, and what is written says it.
func holdPrint(t *testing.T, a api.Ask, want string) {
	t.Helper()
	got, err := speech.Print(a)
	if err != api.OK || got != want {
		t.Errorf("Print of %s is %.200q, %d, not %.200q", short(a), got, err, want)
	}
	holdRead(t, want, a)
}

// holdUnsaid: a question isn't written, and nothing but why is told.
func holdUnsaid(t *testing.T, name string, a api.Ask, want api.Errno) {
	t.Helper()
	if got, err := speech.Print(a); err != want || got != "" {
		t.Errorf("%s: Print of %s is %.200q, %d, not %d", name, short(a), got, err, want)
	}
}

func TestPrintThings(t *testing.T) {
	long := strings.Repeat("z", 32)
	a, b := bins("a"), bins("b")
	for _, x := range []textCase{
		{"count", count()},
		{"count where a = 1", count(is("a", 1))},
		{"count where age >= 2 and sex <> -1", count(test("age", api.TestLeast, 2), test("sex", api.TestNot, -1))},
		{"count where a = 1 and b < 2 and c <= 3 and d > 4 and e >= 5 and f <> 6", count(is("a", 1),
			test("b", api.TestLess, 2), test("c", api.TestMost, 3), test("d", api.TestMore, 4),
			test("e", api.TestLeast, 5), test("f", api.TestNot, 6))},
		{"bins a", a},
		{"bins " + long + " where _ = 0", bins(long, is("_", 0))},
		{"sum age in -1..4 where sex = 0", sum("age", -1, 4, is("sex", 0))},
		{"sum age in -4..-1", sum("age", -4, -1)},
		{"sum age in 4..1", sum("age", 4, 1)},
		{"sum age in -1048576..1048576 where a = 1048576 and a = -1048576", sum("age", -api.MaxValue, api.MaxValue, is("a", api.MaxValue), is("a", -api.MaxValue))},
		{"sum a in 0..0", sum("a", 0, 0)},
		{"total (bins a)", total(a)},
		{"clamp -9..-1 (bins a)", clamp(-9, -1, a)},
		{"clamp 1..0 (bins a)", clamp(1, 0, a)},
		{"join (bins a, bins b)", join(a, b)},
		{"join (join (bins a, bins b), bins b where a = 1)", join(join(a, b), bins("b", is("a", 1)))},
		{"total (total (total (count)))", total(total(total(count())))},
		{"3 * bins a", times(3, a)},
		{"-3 * bins a", times(-3, a)},
		{"0 * bins a", times(0, a)},
		{"1048576 * -1048576 * bins a", times(api.MaxValue, times(-api.MaxValue, a))},
		{"bins a + bins b", add(a, b)},
		{"bins a - bins b", sub(a, b)},
		{"bins a[0]", pick(0, a)},
		{"bins a[1048576]", pick(api.MaxValue, a)},
	} {
		holdPrint(t, x.want, x.s)
	}
}

// TestPrintBrackets holds each kind of question against each place in which one may stand.
func TestPrintBrackets(t *testing.T) {
	a, b := bins("a"), bins("b")
	for _, x := range []struct {
		s              string
		a              api.Ask
		isSum, product bool
	}{
		{"bins a + bins b", add(a, b), true, false},
		{"bins a - bins b", sub(a, b), true, false},
		{"bins a - bins b + bins b", add(sub(a, b), b), true, false},
		{"2 * bins a", times(2, a), false, true},
		{"-2 * bins a", times(-2, a), false, true},
		{"bins a[3]", pick(3, a), false, false},
		{"count", count(), false, false},
		{"bins a where b = -1", bins("a", is("b", -1)), false, false},
		{"sum a in 1..2", sum("a", 1, 2), false, false},
		{"sum a in 1..2 where b = 3", sum("a", 1, 2, is("b", 3)), false, false},
		{"total (bins a + bins b)", total(add(a, b)), false, false},
		{"clamp 1..2 (2 * bins a)", clamp(1, 2, times(2, a)), false, false},
		{"join (bins a - bins b, 2 * bins b)", join(sub(a, b), times(2, b)), false, false},
	} {
		within := func(brackets bool) string {
			if brackets {
				return "(" + x.s + ")"
			}
			return x.s
		}
		holdPrint(t, x.a, x.s)
		holdPrint(t, add(x.a, b), x.s+" + bins b")
		holdPrint(t, sub(x.a, b), x.s+" - bins b")
		holdPrint(t, add(b, x.a), "bins b + "+within(x.isSum))
		holdPrint(t, sub(b, x.a), "bins b - "+within(x.isSum))
		holdPrint(t, sub(x.a, x.a), x.s+" - "+within(x.isSum))
		holdPrint(t, times(4, x.a), "4 * "+within(x.isSum))
		holdPrint(t, times(-4, x.a), "-4 * "+within(x.isSum))
		holdPrint(t, pick(5, x.a), within(x.isSum || x.product)+"[5]")
		holdPrint(t, pick(6, pick(5, x.a)), within(x.isSum || x.product)+"[5][6]")
		holdPrint(t, times(4, pick(5, x.a)), "4 * "+within(x.isSum || x.product)+"[5]")
		holdPrint(t, pick(5, times(4, x.a)), "(4 * "+within(x.isSum)+")[5]")
		holdPrint(t, total(x.a), "total ("+x.s+")")
		holdPrint(t, clamp(-1, 0, x.a), "clamp -1..0 ("+x.s+")")
		holdPrint(t, join(x.a, x.a), "join ("+x.s+", "+x.s+")")
		holdPrint(t, pick(5, total(x.a)), "total ("+x.s+")[5]")
		holdPrint(t, add(b, times(3, x.a)), "bins b + 3 * "+within(x.isSum))
		holdPrint(t, add(times(3, x.a), b), "3 * "+within(x.isSum)+" + bins b")
	}
}

// TestPrintOfWhatCannotBeSaid goes through all that may be wrong with a question, on the top and below others.
func TestPrintOfWhatCannotBeSaid(t *testing.T) {
	a := bins("a")
	with := func(a api.Ask, change func(*api.Ask)) api.Ask {
		change(&a)
		return a
	}
	type wrongCase struct {
		name string
		a    api.Ask
	}
	var cases []wrongCase
	put := func(name string, a api.Ask) { cases = append(cases, wrongCase{name, a}) }
	for _, kind := range []int{0, -1, 11, 12, math.MinInt, math.MaxInt} {
		put("no kind", api.Ask{Kind: kind})
		put("no kind", api.Ask{Kind: kind, Kids: []api.Ask{a}})
	}
	right := []api.Ask{count(), sum("a", 1, 2), a, add(a, a), sub(a, a), times(2, a), join(a, a), total(a), pick(0, a), clamp(1, 2, a)}
	for _, x := range right {
		for n := range 4 {
			if n != len(x.Kids) {
				put("other kids", with(x, func(x *api.Ask) { x.Kids = slices.Repeat([]api.Ask{a}, n) }))
			}
		}
		if x.Kind != api.AskSum && x.Kind != api.AskBins {
			put("a column that isn't used", with(x, func(x *api.Ask) { x.Column = "a" }))
		} else {
			for _, name := range noNames() {
				put("no name", with(x, func(x *api.Ask) { x.Column = name }))
			}
		}
		for _, n := range []int{1, -1, 1 << 20, -1 << 20, 1<<20 + 1, -1<<20 - 1, math.MinInt, math.MaxInt} {
			near := n >= -1<<20 && n <= 1<<20
			if lows := []int{api.AskSum, api.AskTimes, api.AskClamp}; !(near && slices.Contains(lows, x.Kind)) && !(x.Kind == api.AskPick && n >= 0 && near) {
				put("Low", with(x, func(x *api.Ask) { x.Low = n }))
			}
			if highs := []int{api.AskSum, api.AskClamp}; !(near && slices.Contains(highs, x.Kind)) {
				put("High", with(x, func(x *api.Ask) { x.High = n }))
			}
		}
		if len(x.Kids) > 0 {
			put("tests that aren't used", with(x, func(x *api.Ask) { x.Where = []api.Test{is("a", 1)} }))
			continue
		}
		var tests []api.Test
		for _, name := range noNames() {
			tests = append(tests, is(name, 1))
		}
		for _, do := range []int{0, -1, 7, math.MinInt, math.MaxInt} {
			tests = append(tests, test("a", do, 1))
		}
		for _, n := range []int{1<<20 + 1, -1<<20 - 1, math.MinInt, math.MaxInt} {
			tests = append(tests, is("a", n))
		}
		for _, bad := range tests {
			put("a test", with(x, func(x *api.Ask) { x.Where = []api.Test{bad} }))
			put("the last test", with(x, func(x *api.Ask) { x.Where = []api.Test{is("a", 1), bad} }))
		}
		put("too many tests", with(x, func(x *api.Ask) { x.Where = slices.Repeat([]api.Test{is("a", 1)}, api.MaxAsk+1) }))
	}
	for _, x := range cases {
		holdUnsaid(t, x.name, x.a, api.ErrForm)
		for _, above := range []api.Ask{add(a, x.a), sub(x.a, a), times(1, x.a), join(x.a, x.a), join(a, x.a), total(x.a), pick(0, x.a), clamp(0, 0, x.a), total(pick(1, times(2, x.a)))} {
			holdUnsaid(t, x.name+", below another", above, api.ErrForm)
		}
	}
	for _, x := range right {
		if _, err := speech.Print(x); err != api.OK {
			t.Errorf("Print of %s is %d", short(x), err)
		}
	}
}

func noNames() []string {
	return []string{"", "A", "a1", "a b", " a", "a ", "a\n", "\xe4", "1", "-", "count", "sum", "bins", "total", "join", "clamp", "where", "and", "in", strings.Repeat("z", 33), strings.Repeat("z", 1<<20)}
}

func TestPrintOfMostTests(t *testing.T) {
	tests := slices.Repeat([]api.Test{is("a", 1)}, api.MaxAsk)
	holdPrint(t, count(tests...), "count where a = 1"+strings.Repeat(" and a = 1", api.MaxAsk-1))
	holdPrint(t, add(count(tests...), count(tests...)), "count where a = 1"+strings.Repeat(" and a = 1", api.MaxAsk-1)+" + count where a = 1"+strings.Repeat(" and a = 1", api.MaxAsk-1))
}

// deeper are ways to lay one question around another, until it is too much.
func deeper() []struct {
	name   string
	rights int // so often it may be done
	around func(api.Ask) api.Ask
} {
	return []struct {
		name   string
		rights int
		around func(api.Ask) api.Ask
	}{
		{"times", 63, func(a api.Ask) api.Ask { return times(2, a) }},
		{"total", 63, total},
		{"clamp", 63, func(a api.Ask) api.Ask { return clamp(0, 1, a) }},
		{"the first of two", 63, func(a api.Ask) api.Ask { return join(a, count()) }},
		{"the second of two", 63, func(a api.Ask) api.Ask { return join(count(), a) }},
		{"sums in brackets", 64, func(a api.Ask) api.Ask { return sub(count(), a) }},
		{"signs", 64, func(a api.Ask) api.Ask { return add(a, count()) }},
		{"signs with brackets", 64, func(a api.Ask) api.Ask { return sub(a, sub(count(), count())) }},
		{"picks", 64, func(a api.Ask) api.Ask { return pick(3, a) }},
		{"products ahead of picks", 31, func(a api.Ask) api.Ask { return pick(3, times(2, a)) }},
		{"sums behind products", 32, func(a api.Ask) api.Ask { return add(times(2, a), count()) }},
		{"sums ahead of picks", 64, func(a api.Ask) api.Ask { return add(pick(3, a), count()) }},
	}
}

func TestPrintOfTooMuch(t *testing.T) {
	for _, x := range deeper() {
		right := repeated(x.rights, count(), x.around)
		s, err := speech.Print(right)
		if err != api.OK {
			t.Errorf("%s: Print of %d is %d", x.name, x.rights, err)
		}
		holdRead(t, s, right)
		for _, n := range []int{1, 2, 10, 1000, 20000} {
			holdUnsaid(t, x.name, repeated(x.rights+n, count(), x.around), api.ErrMuch)
			holdUnsaid(t, x.name+", and a wrong one below", repeated(x.rights+n, bins("A"), x.around), api.ErrForm)
		}
	}
}

// TestPrintOfLongTexts: a text may have MaxText bytes, and not one more.
func TestPrintOfLongTexts(t *testing.T) {
	wide := strings.Repeat("w", 32)
	leaf := bins(wide, slices.Repeat([]api.Test{is(wide, -api.MaxValue)}, api.MaxAsk)...)
	said := " + bins " + wide + " where " + strings.Repeat(wide+" = -1048576 and ", api.MaxAsk-1) + wide + " = -1048576"
	var terms []api.Ask
	s := "sum a in 0..9"
	for len(s)+len(said)+9 <= api.MaxText {
		terms, s = append(terms, leaf), s+said
	}
	for left := api.MaxText - len(s); left > 0; left = api.MaxText - len(s) {
		n := min(left-8, 32)
		if rest := left - 8 - n; rest > 0 && rest < 9 { // too few for another term
			n -= 9
		}
		name := strings.Repeat("z", n)
		terms, s = append(terms, bins(name)), s+" + bins "+name
	}
	all := func(first api.Ask) api.Ask {
		for _, x := range terms {
			first = add(first, x)
		}
		return first
	}
	if len(s) != api.MaxText || len(terms) > api.MaxAsk {
		t.Fatalf("the longest text has %d bytes, %d signs", len(s), len(terms))
	}
	holdPrint(t, all(sum("a", 0, 9)), s)
	holdUnsaid(t, "a byte more", all(sum("a", 0, 10)), api.ErrMuch)
	holdUnsaid(t, "a byte more", all(sum("aa", 0, 9)), api.ErrMuch)
	holdUnsaid(t, "a piece more", sub(all(sum("a", 0, 9)), count()), api.ErrMuch)
	holdUnsaid(t, "brackets more", total(all(sum("a", 0, 9))), api.ErrMuch)
	holdUnsaid(t, "a byte more, and what can't be said behind it", add(all(sum("a", 0, 10)), bins("in")), api.ErrForm)
}

// TestPrintOfVeryMuch: a question with far more to say than a text has room for, and one that is very deep.
func TestPrintOfVeryMuch(t *testing.T) {
	wide := repeated(20, bins("a"), func(a api.Ask) api.Ask { return join(a, a) })
	holdUnsaid(t, "wide", wide, api.ErrMuch)
	bad := repeated(20, bins("a"), func(a api.Ask) api.Ask { return join(a, a) })
	holdUnsaid(t, "wide, the last one wrong", join(bad, bins("in")), api.ErrForm)
	for _, x := range deeper() {
		holdUnsaid(t, "deep, by "+x.name, repeated(30000, bins("a"), x.around), api.ErrMuch)
	}
	holdUnsaid(t, "deep", repeated(1<<16-1, bins("a"), total), api.ErrMuch)
	holdUnsaid(t, "deep to the left", repeated(1<<16-1, bins("a"), func(a api.Ask) api.Ask { return add(a, count()) }), api.ErrMuch)
	holdUnsaid(t, "deep, the last one wrong", repeated(1<<16-1, bins("in"), total), api.ErrForm)
}
