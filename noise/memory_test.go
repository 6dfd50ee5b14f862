package noise_test

import (
	"reflect"
	"slices"
	"testing"

	"hushhouse/api"
	"hushhouse/noise"
)

// roomy lays a list with spare room behind it, so that what is written there is seen.
func roomy[T any](l []T, behind T) []T {
	return append(append(make([]T, 0, len(l)+2), l...), behind, behind)[:len(l)]
}

// wholeList is all of a list with its spare room.
func wholeList[T any](l []T) []T { return slices.Clone(l[:cap(l)]) }

func roomyTable() api.Table {
	x := people()
	for i, row := range x.Rows {
		x.Rows[i] = roomy(row, 91)
	}
	return api.Table{Columns: roomy(x.Columns, api.Column{Name: "spare", Size: 92}), Rows: roomy(x.Rows, []int{93})}
}

func wholeTable(x api.Table) api.Table {
	out := api.Table{Columns: wholeList(x.Columns)}
	for _, row := range x.Rows[:cap(x.Rows)] {
		out.Rows = append(out.Rows, append([]int{len(row)}, wholeList(row)...))
	}
	return out
}

func roomyAsk(a api.Ask) api.Ask {
	var kids []api.Ask
	for _, kid := range a.Kids {
		kids = append(kids, roomyAsk(kid))
	}
	a.Where, a.Kids = roomy(a.Where, api.Test{Column: "spare", Do: 94}), roomy(kids, api.Ask{Kind: 95})
	return a
}

func wholeAsk(a api.Ask) api.Ask {
	a.Where, a.Kids = wholeList(a.Where), wholeList(a.Kids)
	for i, kid := range a.Kids {
		a.Kids[i] = wholeAsk(kid)
	}
	return a
}

// spoil writes over all of a distribution, its spare room too.
func spoil(d api.Dist) {
	all := d[:cap(d)]
	for i, p := range all {
		out := p.Out[:cap(p.Out)]
		for k := range out {
			out[k] = -12345
		}
		all[i] = api.Part{Out: []int{-54321}, Weight: -1}
	}
}

func spoilAll(l []api.Dist) {
	all := l[:cap(l)]
	for i, d := range all {
		spoil(d)
		all[i] = api.Dist{{Weight: -2}}
	}
}

func clonedAll(l []api.Dist) []api.Dist {
	out := []api.Dist{}
	for _, d := range l {
		out = append(out, cloned(d))
	}
	return out
}

func cloned(d api.Dist) api.Dist {
	out := api.Dist{}
	for _, p := range d {
		out = append(out, api.Part{Out: slices.Clone(p.Out), Weight: p.Weight})
	}
	return out
}

func TestNothingIsWritten(t *testing.T) {
	for _, r := range []api.Ratio{f(2, 1), f(1, 1), f(1, 2), f(2, 2), f(most, 1)} {
		for _, w := range [][2]int{{0, 3}, {0, 0}, {1, 0}, {0, 60}} {
			numbers := roomy([]int{5, -1, 2, 2, 0}, 99)
			was := wholeList(numbers)
			noise.HideAll(r, w[0], w[1], numbers)
			if !slices.Equal(wholeList(numbers), was) {
				t.Errorf("HideAll has changed the numbers to %v", wholeList(numbers))
			}
			for _, a := range someAsks() {
				x, a := roomyTable(), roomyAsk(a)
				wasTable, wasAsk := wholeTable(x), wholeAsk(a)
				noise.Answer(r, w[0], w[1], x, a)
				if !reflect.DeepEqual(wholeTable(x), wasTable) || !reflect.DeepEqual(wholeAsk(a), wasAsk) {
					t.Errorf("Answer has changed what was handed in: %v, %v", wholeTable(x), wholeAsk(a))
				}
			}
		}
	}
}

// TestAnswersAreNewMemory writes over one part of an answer after the other: no other part, and no other answer, changes.
func TestAnswersAreNewMemory(t *testing.T) {
	numbers := []int{1, 1, 0, 3, 9, 1, 0, -4}
	for _, w := range [][2]int{{0, 3}, {2, 2}, {-1, 1}} {
		first, _ := noise.HideAll(f(3, 2), w[0], w[1], numbers)
		second, _ := noise.HideAll(f(3, 2), w[0], w[1], numbers)
		want := clonedAll(second)
		for i := range first {
			spoil(first[i])
			if !reflect.DeepEqual(clonedAll(first[i+1:]), want[i+1:]) {
				t.Errorf("what is told of number %d shares memory with what is told of another one", i)
			}
		}
		spoilAll(first)
		third, _ := noise.HideAll(f(3, 2), w[0], w[1], numbers)
		if !reflect.DeepEqual(second, want) || !reflect.DeepEqual(third, want) {
			t.Errorf("two answers share memory: %v, %v", second, third)
		}
	}
	for _, a := range someAsks() {
		x, a := roomyTable(), roomyAsk(a)
		wasTable, wasAsk := wholeTable(x), wholeAsk(a)
		first, _, _ := noise.Answer(f(3, 2), 0, 3, x, a)
		second, _, _ := noise.Answer(f(3, 2), 0, 3, x, a)
		want := clonedAll(second)
		for i := range first {
			spoil(first[i])
			if !reflect.DeepEqual(clonedAll(first[i+1:]), want[i+1:]) {
				t.Errorf("place %d shares memory with another one", i)
			}
		}
		spoilAll(first)
		if !reflect.DeepEqual(clonedAll(second), want) || !reflect.DeepEqual(wholeTable(x), wasTable) || !reflect.DeepEqual(wholeAsk(a), wasAsk) {
			t.Errorf("an answer shares memory")
		}
	}
	for _, ask := range []func() api.Dist{
		func() api.Dist { d, _ := noise.Hide(f(3, 2), 0, 3, 1); return d },
		func() api.Dist { d, _ := noise.Hide(f(3, 2), 4, 4, 1); return d },
		func() api.Dist { d, _ := noise.Respond(f(3, 2), 5, 1); return d },
		func() api.Dist { d, _ := noise.Respond(f(3, 2), 1, 0); return d },
	} {
		first, second := ask(), ask()
		want := cloned(second)
		spoil(first)
		if !reflect.DeepEqual(second, want) || !reflect.DeepEqual(ask(), want) {
			t.Errorf("two answers share memory: %v", second)
		}
	}
}

// TestPartsAreApart writes over one outcome of a distribution after the other.
func TestPartsAreApart(t *testing.T) {
	all, _ := noise.HideAll(f(3, 2), 0, 3, []int{1, 1})
	one, _ := noise.Hide(f(3, 2), 0, 3, 1)
	said, _ := noise.Respond(f(3, 2), 4, 1)
	for _, d := range append(all, one, said) {
		for i, p := range d {
			out := p.Out[:cap(p.Out)]
			for k := range out {
				out[k] = -1
			}
			for k, other := range d[i+1:] {
				if other.Out[0] != i+1+k {
					t.Errorf("two outcomes share memory")
				}
			}
		}
	}
}

// TestNothingIsKept: what was handed in may be changed when a call has answered.
func TestNothingIsKept(t *testing.T) {
	numbers := []int{0, 1}
	got, _ := noise.HideAll(f(2, 1), 0, 1, numbers)
	numbers[0], numbers[1] = 1, 0
	holdAll(t, "HideAll", got, api.OK, []api.Dist{line(0, 2, 1), line(0, 1, 2)}, api.OK)
	got, err := noise.HideAll(f(2, 1), 0, 1, numbers)
	holdAll(t, "HideAll", got, err, []api.Dist{line(0, 1, 2), line(0, 2, 1)}, api.OK)

	x, a := people(), count(girls())
	told, _, _ := noise.Answer(f(2, 1), 0, 3, x, a)
	x.Rows[0][1], a.Where[0].Value = 0, 0
	holdAll(t, "Answer", told, api.OK, []api.Dist{line(0, 1, 1, 2, 2)}, api.OK)
}

func TestNilAndEmptyAreTheSame(t *testing.T) {
	for _, kids := range [][]api.Ask{nil, {}} {
		for _, where := range [][]api.Test{nil, {}} {
			for _, list := range [][][]int{nil, {}} {
				x := api.Table{Columns: people().Columns, Rows: list}
				a := api.Ask{Kind: api.AskCount, Where: where, Kids: kids}
				holdAnswer(t, "nobody", f(2, 1), 0, 1, x, a, []api.Dist{line(0, 2, 1)}, f(2, 1), api.OK)
			}
			for _, l := range [][]api.Column{nil, {}} {
				holdAnswer(t, "nothing", f(2, 1), 0, 1, api.Table{Columns: l}, api.Ask{Kind: api.AskCount, Where: where, Kids: kids}, nil, f(0, 0), api.ErrMany)
			}
		}
	}
	for _, numbers := range [][]int{nil, {}, roomy([]int{}, 7)} {
		got, err := noise.HideAll(f(2, 1), 0, 1, numbers)
		holdAll(t, "HideAll", got, err, nil, api.OK)
	}
}
