package sample_test

import (
	"reflect"
	"slices"
	"testing"

	"hushhouse/api"
	"hushhouse/dist"
	"hushhouse/sample"
)

// roomy lays a list with spare room behind it, so that what is written there is seen.
func roomy[T any](l []T, behind T) []T {
	return append(append(make([]T, 0, len(l)+2), l...), behind, behind)[:len(l)]
}

func roomyPeople(many int) api.Table {
	x := people(many)
	for i, row := range x.Rows {
		x.Rows[i] = roomy(row, 91)
	}
	return api.Table{Columns: roomy(x.Columns, api.Column{Name: "spare", Size: 92}), Rows: roomy(x.Rows, []int{93})}
}

// wholeTable is all of a table with its spare room.
func wholeTable(x api.Table) api.Table {
	out := api.Table{Columns: slices.Clone(x.Columns[:cap(x.Columns)])}
	for _, row := range x.Rows[:cap(x.Rows)] {
		out.Rows = append(out.Rows, append([]int{len(row)}, row[:cap(row)]...))
	}
	return out
}

func spoilNumbers(l []int) {
	l = l[:cap(l)]
	for i := range l {
		l[i] = -12345
	}
}

// spoilTable writes over all of a table, its spare room too.
func spoilTable(x api.Table) {
	columns, all := x.Columns[:cap(x.Columns)], x.Rows[:cap(x.Rows)]
	for i := range columns {
		columns[i] = api.Column{Name: "spoilt", Size: -1}
	}
	for i, row := range all {
		spoilNumbers(row)
		all[i] = nil
	}
}

// spoil writes over all of a distribution, its spare room too.
func spoil(d api.Dist) {
	all := d[:cap(d)]
	for i, p := range all {
		spoilNumbers(p.Out)
		all[i] = api.Part{Out: []int{-54321}, Weight: -1}
	}
}

func cloned(d api.Dist) api.Dist {
	var out api.Dist
	for _, p := range d {
		out = append(out, api.Part{Out: slices.Clone(p.Out), Weight: p.Weight})
	}
	return out
}

// TestE2OnlyRead: neither by the call nor by the function that it asks, though that writes over all it is handed.
func TestE2OnlyRead(t *testing.T) {
	for many := range 5 {
		for _, p := range []api.Ratio{f(1, 3), f(1, 1), f(0, 1), f(2, 2), f(3, 2)} {
			x := roomyPeople(many)
			was := wholeTable(x)
			want, werr := sample.Through(p, people(many), names)
			got, err := sample.Through(p, x, func(s api.Table) (api.Dist, api.Errno) {
				d, err := names(s)
				spoilTable(s)
				return d, err
			})
			hold(t, "of rows that were written over", got, err, want, werr)
			if !reflect.DeepEqual(wholeTable(x), was) {
				t.Errorf("%v became %v", was, wholeTable(x))
			}
		}
	}
}

// TestE2WhatIsHandedOnIsKept: the function may keep all tables that it is handed; none of them shares memory with another one, or with what was handed in.
func TestE2WhatIsHandedOnIsKept(t *testing.T) {
	x := people(4)
	var kept, were []api.Table
	sample.Through(f(1, 2), x, func(s api.Table) (api.Dist, api.Errno) {
		kept, were = append(kept, s), append(were, wholeTable(s))
		return names(s)
	})
	spoilTable(x)
	if len(kept) != 16 {
		t.Fatalf("%d tables are handed on", len(kept))
	}
	for i, s := range kept {
		if !reflect.DeepEqual(wholeTable(s), were[i]) {
			t.Errorf("%v became %v", were[i], wholeTable(s))
		}
		for k, row := range s.Rows {
			spoilNumbers(row)
			if k+1 < len(s.Rows) && s.Rows[k+1][0] < 0 {
				t.Errorf("two rows share memory")
			}
		}
		spoilTable(s)
	}
}

// TestE2OneListEachTime: the function may tell the same memory again and again, and change it when the call has answered.
func TestE2OneListEachTime(t *testing.T) {
	d := api.Dist{{Out: []int{0}, Weight: 1}}
	do := func(s api.Table) (api.Dist, api.Errno) {
		d[0].Out[0] = len(s.Rows)
		return d, api.OK
	}
	got, err := sample.Through(f(1, 2), people(2), do)
	spoil(d)
	hold(t, "one list", got, err, line(1, 2, 1), api.OK)

	fixed := api.Dist(roomy(line(1, 2), api.Part{Out: []int{5}, Weight: 5}))
	was := cloned(fixed[:cap(fixed)])
	sample.Through(f(1, 3), people(3), func(api.Table) (api.Dist, api.Errno) { return fixed, api.OK })
	if !slices.EqualFunc(fixed[:cap(fixed)], was, same) {
		t.Errorf("what was told is written over: %v", fixed[:cap(fixed)])
	}
}

// TestE2AnswersAreNew writes over one answer, and over one outcome after the other.
func TestE2AnswersAreNew(t *testing.T) {
	for _, ask := range []func() (api.Dist, api.Errno){
		func() (api.Dist, api.Errno) { return sample.Subsets(f(1, 3), 4) },
		func() (api.Dist, api.Errno) { return sample.Subsets(f(1, 3), 0) },
		func() (api.Dist, api.Errno) { return sample.Subsets(f(1, 1), 10) },
		func() (api.Dist, api.Errno) { return sample.Through(f(1, 3), people(3), hidden) },
		func() (api.Dist, api.Errno) { return sample.Through(f(1, 3), people(0), hidden) },
		func() (api.Dist, api.Errno) { return sample.Through(f(1, 3), people(3), names) },
	} {
		first, _ := ask()
		second, _ := ask()
		want := cloned(second)
		for i, p := range first {
			spoilNumbers(p.Out)
			if !slices.EqualFunc(first[i+1:], want[i+1:], same) {
				t.Errorf("two outcomes share memory")
			}
		}
		spoil(first)
		third, err := ask()
		if err != api.OK || dist.Wrong(third) != api.OK || !slices.EqualFunc(second, want, same) || !slices.EqualFunc(third, want, same) {
			t.Errorf("two answers share memory: %v, %v", second, third)
		}
	}
}
