package ask_test

import (
	"math"
	"slices"
	"testing"

	"hushhouse/api"
	"hushhouse/ask"
)

type partCase struct {
	name   string
	a      api.Ask
	column string
	want   int
	err    api.Errno
}

func testParts(t *testing.T, cases []partCase) {
	t.Helper()
	for _, x := range cases {
		if v, err := ask.Part(people(), x.a, x.column); v != x.want || err != x.err {
			t.Errorf("%s: Part of %s is %d, %d, not %d, %d", x.name, short(x.a), v, err, x.want, x.err)
		}
	}
}

func TestPart(t *testing.T) {
	testParts(t, []partCase{
		{"a count", count(is("sex", 1)), "sex", 1, api.OK},
		{"a sum", sum("age", 0, 3, is("age", 3)), "age", 3, api.OK},
		{"bins", bins("age", is("sex", 0)), "sex", 0, api.OK},
		{"bins of that column", bins("age", is("age", 2)), "age", 2, api.OK},
		{"of another column", count(is("sex", 1)), "age", 0, api.ErrNone},
		{"of either column", count(is("sex", 1), is("age", 3)), "age", 3, api.OK},
		{"behind other tests", count(test("sex", api.TestLess, 0), test("age", api.TestNot, 1), is("one", 0), is("sex", 1)), "sex", 1, api.OK},
		{"the last of MaxAsk tests", count(append(slices.Repeat([]api.Test{is("age", 1)}, api.MaxAsk-1), is("sex", 1))...), "sex", 1, api.OK},
		{"a column of one value", count(is("one", 0)), "one", 0, api.OK},
		{"no tests", count(), "age", 0, api.ErrNone},
		{"no tests of a sum", sum("age", 2, 2), "age", 0, api.ErrNone},
		{"no tests of bins", bins("age"), "age", 0, api.ErrNone},
	})
}

func TestPartOfOtherTests(t *testing.T) {
	for _, do := range []int{api.TestLess, api.TestMost, api.TestMore, api.TestLeast, api.TestNot} {
		testParts(t, []partCase{
			{"another test alone", count(test("sex", do, 1)), "sex", 0, api.ErrNone},
			{"another test ahead", count(test("sex", do, 0), is("sex", 1)), "sex", 1, api.OK},
			{"another test behind", count(is("sex", 1), test("sex", do, 0)), "sex", 1, api.OK},
		})
	}
}

// TestPartOfTwoTests: the first one says it, whatever the others say.
func TestPartOfTwoTests(t *testing.T) {
	testParts(t, []partCase{
		{"two values", count(is("age", 2), is("age", 1)), "age", 2, api.OK},
		{"two values, the other way round", count(is("age", 1), is("age", 2)), "age", 1, api.OK},
		{"one value twice", count(is("age", 2), is("age", 2)), "age", 2, api.OK},
		{"the first one has no right value", count(is("age", 4), is("age", 2)), "age", 0, api.ErrNone},
		{"the second one has no right value", count(is("age", 2), is("age", 4)), "age", 2, api.OK},
		{"of kids: the first ones are the same", add(count(is("age", 2), is("age", 1)), count(is("age", 2))), "age", 2, api.OK},
		{"of kids: the last ones are the same", add(count(is("age", 2), is("age", 1)), count(is("age", 1))), "age", 0, api.ErrNone},
		{"of kids: the same, in another order", add(count(is("age", 2), is("age", 1)), count(is("age", 1), is("age", 2))), "age", 0, api.ErrNone},
	})
}

func TestPartOfKids(t *testing.T) {
	in := func(v int) api.Ask { return count(is("age", v)) }
	testParts(t, []partCase{
		{"one value", add(in(2), sum("age", 0, 3, is("age", 2))), "age", 2, api.OK},
		{"other values", add(in(2), in(1)), "age", 0, api.ErrNone},
		{"other values, one of them 0", join(in(0), in(3)), "age", 0, api.ErrNone},
		{"other values, the other one 0", join(in(3), in(0)), "age", 0, api.ErrNone},
		{"0 in both", sub(in(0), in(0)), "age", 0, api.OK},
		{"the first one says none", add(count(), in(2)), "age", 0, api.ErrNone},
		{"the second one says none", add(in(2), count()), "age", 0, api.ErrNone},
		{"the second one says none, and the first one 0", add(in(0), count()), "age", 0, api.ErrNone},
		{"neither says one", add(count(), count()), "age", 0, api.ErrNone},
		{"one kid", total(bins("age", is("sex", 1))), "sex", 1, api.OK},
		{"deep", clamp(0, 9, times(2, pick(0, join(in(3), add(in(3), in(3)))))), "age", 3, api.OK},
		{"deep, another one at the end", clamp(0, 9, times(2, pick(0, join(in(3), add(in(3), in(2)))))), "age", 0, api.ErrNone},
		{"deep, another one at the beginning", join(join(join(in(2), in(3)), in(3)), in(3)), "age", 0, api.ErrNone},
		{"one that is not picked counts too", pick(0, join(in(3), count())), "age", 0, api.ErrNone},
		{"one that is multiplied by 0 counts too", add(in(3), times(0, in(1))), "age", 0, api.ErrNone},
		{"on level 64", high(api.MaxAsk, in(3)), "age", 3, api.OK},
	})
	// what stands in the Where of a question with kids says nothing
	a := add(in(2), in(2))
	a.Where = []api.Test{is("age", 1)}
	b := add(count(), count())
	b.Where = []api.Test{is("age", 1)}
	testParts(t, []partCase{{"a Where above", a, "age", 2, api.OK}, {"a Where above alone", b, "age", 0, api.ErrNone}})
}

func TestPartOfValuesThatAreNone(t *testing.T) {
	for _, v := range []int{-1, 4, 5, math.MinInt, math.MaxInt, 1 << 32} {
		testParts(t, []partCase{
			{"no value of the column", count(is("age", v)), "age", 0, api.ErrNone},
			{"no value of the column, in both kids", add(count(is("age", v)), count(is("age", v))), "age", 0, api.ErrNone},
		})
	}
	testParts(t, []partCase{
		{"the last value", count(is("age", 3)), "age", 3, api.OK},
		{"a value of another column alone", count(is("sex", 3), is("age", 1)), "sex", 0, api.ErrNone},
		{"a value of the other column", count(is("sex", 3), is("age", 1)), "age", 1, api.OK},
	})
}

func TestPartOfColumnsThatAreNone(t *testing.T) {
	for _, name := range []string{"", "none", "ag", "Age", "age ", "\xff"} {
		testParts(t, []partCase{
			{"a column that is not there", count(is("age", 1)), name, 0, api.ErrName},
			{"ahead of ErrNone", count(), name, 0, api.ErrName},
			{"behind what Type says", bins("age", test("age", 0, 0)), name, 0, api.ErrKind},
		})
	}
}
