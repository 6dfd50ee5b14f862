package rows_test

import (
	"iter"
	"slices"
	"testing"

	"hushhouse/api"
	"hushhouse/plain"
	"hushhouse/rows"
)

// near is all tables that Near tells.
func near(t api.Table) []api.Table { return slices.Collect(iter.Seq[api.Table](rows.Near(t))) }

func TestNear(t *testing.T) {
	l := sized(2, 2)
	for _, x := range []struct {
		name string
		t    api.Table
		want [][][]int
	}{
		{"no rows", table(l), [][][]int{{{0, 0}}, {{0, 1}}, {{1, 0}}, {{1, 1}}}},
		{"one row", table(l, []int{1, 0}), [][][]int{
			{{0, 0}, {1, 0}},
			{{0, 1}, {1, 0}},
			{}, {{1, 0}, {1, 0}},
			{{1, 0}, {1, 1}},
		}},
		{"rows in any order", table(l, []int{1, 1}, []int{0, 0}, []int{1, 1}), [][][]int{
			{{1, 1}, {1, 1}}, {{0, 0}, {0, 0}, {1, 1}, {1, 1}},
			{{0, 0}, {0, 1}, {1, 1}, {1, 1}},
			{{0, 0}, {1, 0}, {1, 1}, {1, 1}},
			{{0, 0}, {1, 1}}, {{0, 0}, {1, 1}, {1, 1}, {1, 1}},
		}},
		{"MaxRows rows", table(l, append(times(2000, 1, 0), times(2096, 0, 1)...)...), [][][]int{
			append(times(2095, 0, 1), times(2000, 1, 0)...),
			append(times(2096, 0, 1), times(1999, 1, 0)...),
		}},
		{"one row less than MaxRows", table(sized(2), append(times(2000, 1), times(2095, 0)...)...), [][][]int{
			append(times(2094, 0), times(2000, 1)...), append(times(2096, 0), times(2000, 1)...),
			append(times(2095, 0), times(1999, 1)...), append(times(2095, 0), times(2001, 1)...),
		}},
		{"one cell", table(sized(1), []int{0}), [][][]int{{}, {{0}, {0}}}},
	} {
		got := near(x.t)
		ok := slices.EqualFunc(got, x.want, func(a api.Table, b [][]int) bool { return equal(a, table(x.t.Columns, b...)) })
		if !ok {
			t.Errorf("Near of %s: %s comes, not %s", x.name, short(got), short(x.want))
		}
	}
}

func TestNearIsOfMaxCellsToo(t *testing.T) {
	n := 0
	for x := range rows.Near(table(sized(api.MaxCells), []int{7})) {
		want := [][]int{{7}, {n}}
		switch {
		case n < 7:
			want = [][]int{{n}, {7}}
		case n == 7:
			want = nil
		case n == 8:
			want = [][]int{{7}, {7}}
		case n > 8:
			want = [][]int{{7}, {n - 1}}
		}
		if !equal(x, table(sized(api.MaxCells), want...)) {
			t.Fatalf("table %d is %s, not %v", n, short(x.Rows), want)
		}
		n++
	}
	if n != api.MaxCells+1 {
		t.Errorf("%d tables are near, not %d", n, api.MaxCells+1)
	}
}

func TestNearEndsEarly(t *testing.T) {
	x := table(sized(2, 2), []int{1, 1}, []int{0, 0})
	every := near(x)
	all := rows.Near(x)
	for stop := 1; stop <= len(every)+1; stop++ {
		told := 0
		all(func(y api.Table) bool {
			if told >= len(every) || !equal(y, every[told]) {
				t.Errorf("table %d of those up to %d is %s", told, stop, short(y))
			}
			told++
			return told < stop
		})
		if told != min(stop, len(every)) {
			t.Errorf("%d tables are told, and no was said of table %d", told, stop)
		}
	}
}

func TestNearCanBeGoneThroughAgain(t *testing.T) {
	x := table(sized(2, 2), []int{1, 1}, []int{0, 0})
	every := near(x)
	all := rows.Near(x)
	for range 3 {
		if again := slices.Collect(iter.Seq[api.Table](all)); !slices.EqualFunc(again, every, equal) {
			t.Errorf("gone through again: %s", short(again))
		}
		for range all { // an end in the midst of it
			break
		}
	}
	i := 0
	for a := range all { // and one within another
		if !equal(a, every[i]) {
			t.Errorf("table %d of the outer ones is %s", i, short(a))
		}
		j := 0
		for b := range all {
			if !equal(b, every[j]) {
				t.Errorf("table %d of the inner ones is %s", j, short(b))
			}
			j++
		}
		i++
	}
}

func TestNearTwoAtOnce(t *testing.T) {
	x := table(sized(3), []int{1}, []int{0})
	every := near(x)
	all := iter.Seq[api.Table](rows.Near(x))
	nextA, stopA := iter.Pull(all)
	defer stopA()
	nextB, stopB := iter.Pull(all)
	defer stopB()
	nextA()
	for i, want := range every {
		b, ok := nextB()
		if !ok || !equal(b, want) {
			t.Errorf("the second one tells %s at %d", short(b), i)
		}
		if a, ok := nextA(); i+1 < len(every) && (!ok || !equal(a, every[i+1])) {
			t.Errorf("the first one tells %s at %d", short(a), i+1)
		}
	}
}

func TestNearOfNobody(t *testing.T) {
	rows.Near(table(sized(3), []int{1}))(nil)
	rows.Near(api.Table{})(nil)
}

func TestNearInPlainData(t *testing.T) {
	for _, x := range []api.Table{{}, table(sized(1)), table(sized(3, 2), []int{2, 1}, []int{0, 0}, []int{2, 1})} {
		if got, ok := plain.Near(x); !ok || !slices.EqualFunc(got, near(x), equal) {
			t.Errorf("Near of %s in plain data is %s, %t", short(x), short(got), ok)
		}
	}
}
