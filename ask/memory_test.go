package ask_test

import (
	"reflect"
	"slices"
	"testing"

	"hushhouse/api"
	"hushhouse/ask"
)

// roomy lays a list with spare room behind it, so that what is written there is seen.
func roomy[T any](l []T, behind T) []T {
	return append(append(make([]T, 0, len(l)+2), l...), behind, behind)[:len(l)]
}

func roomyTable(t api.Table) api.Table {
	out := api.Table{Columns: roomy(t.Columns, c("spare", 91))}
	for _, row := range t.Rows {
		out.Rows = append(out.Rows, roomy(row, 92))
	}
	out.Rows = roomy(out.Rows, []int{93})
	return out
}

func roomyAsk(a api.Ask) api.Ask {
	a.Where = roomy(a.Where, test("spare", 94, 95))
	var kids []api.Ask
	for _, kid := range a.Kids {
		kids = append(kids, roomyAsk(kid))
	}
	a.Kids = roomy(kids, api.Ask{Kind: 96})
	return a
}

// copied is all of a list with its spare room.
func copied[T any](l []T) []T { return slices.Clone(l[:cap(l)]) }

// wholeTable is a copy of a table with all its spare room.
func wholeTable(t api.Table) api.Table {
	out := api.Table{Columns: copied(t.Columns)}
	for _, row := range t.Rows[:cap(t.Rows)] {
		out.Rows = append(out.Rows, append([]int{len(row)}, copied(row)...))
	}
	return out
}

// wholeAsk is a copy of a question with all its spare room.
func wholeAsk(a api.Ask) api.Ask {
	a.Where = copied(a.Where)
	kids := copied(a.Kids)
	for i, kid := range kids {
		kids[i] = wholeAsk(kid)
	}
	a.Kids = kids
	return a
}

// questions are some of every kind, right ones and wrong ones.
func questions() []api.Ask {
	some := []api.Test{is("sex", 1), test("age", api.TestLeast, 1)}
	ages := bins("age", some...)
	return []api.Ask{
		count(), count(some...), sum("age", 1, 2, some...), ages,
		add(ages, ages), sub(bins("sex"), bins("sex", some...)), join(ages, count(some...)), join(count(), ages),
		times(-3, ages), total(ages), pick(2, ages), pick(0, count()), clamp(0, 1, ages),
		join(join(ages, times(2, ages)), clamp(-1, 1, sub(ages, ages))),
		{}, bins("none"), add(ages, count()), pick(9, ages), sum("age", 1, 0), count(test("age", 0, 0)),
		high(api.MaxAsk+1, ages), count(slices.Repeat(some, api.MaxAsk)...), {Kind: api.AskTotal, Kids: []api.Ask{ages, ages}},
	}
}

func TestNothingIsWritten(t *testing.T) {
	wrong := crowd()
	wrong.Rows[4][2] = 1
	for _, x := range []api.Table{crowd(), wrong, {Columns: people()}, {}} {
		for _, a := range questions() {
			x, a := roomyTable(x), roomyAsk(a)
			wasTable, wasAsk := wholeTable(x), wholeAsk(a)
			ask.Type(x.Columns, a)
			ask.Run(x, a)
			ask.Part(x.Columns, a, "age")
			ask.Part(x.Columns, a, "none")
			if !reflect.DeepEqual(wholeTable(x), wasTable) || !reflect.DeepEqual(wholeAsk(a), wasAsk) {
				t.Errorf("what was handed in is changed by %s", short(a))
			}
		}
	}
}

// TestAnswersAreNewMemory writes over an answer with all its spare room: nothing of it is seen anywhere else.
func TestAnswersAreNewMemory(t *testing.T) {
	for _, a := range questions() {
		x, a := roomyTable(crowd()), roomyAsk(a)
		wasTable, wasAsk := wholeTable(x), wholeAsk(a)
		first, err := ask.Run(x, a)
		second, _ := ask.Run(x, a)
		want := slices.Clone(second)
		all := first[:cap(first)]
		for i := range all {
			all[i] = -12345
		}
		if err != api.OK && len(first) > 0 {
			t.Errorf("Run of %s is %v, %d", short(a), first, err)
		}
		if !slices.Equal(second, want) {
			t.Errorf("two answers of %s share memory", short(a))
		}
		if third, _ := ask.Run(x, a); !slices.Equal(third, want) {
			t.Errorf("what came of %s once is to be seen in what comes then", short(a))
		}
		if !reflect.DeepEqual(wholeTable(x), wasTable) || !reflect.DeepEqual(wholeAsk(a), wasAsk) {
			t.Errorf("an answer of %s shares memory with what was handed in", short(a))
		}
	}
}

// TestNothingIsKept: what was handed in may be changed when a call has answered, and what is answered then hangs on what is handed in then.
func TestNothingIsKept(t *testing.T) {
	x, a := crowd(), bins("age", is("sex", 1))
	got, _ := ask.Run(x, a)
	x.Rows[0][0], a.Where[0].Value, x.Columns[2].Size = 0, 0, 2
	if !slices.Equal(got, []int{0, 1, 1, 1}) {
		t.Errorf("the answer has become %v", got)
	}
	if again, err := ask.Run(x, a); err != api.OK || !slices.Equal(again, []int{1, 0, 1, 0}) {
		t.Errorf("Run is %v, %d", again, err)
	}
}

func TestNilAndEmptyAreTheSame(t *testing.T) {
	for _, tests := range [][]api.Test{nil, {}} {
		for _, kids := range [][]api.Ask{nil, {}} {
			for _, list := range [][][]int{nil, {}} {
				x := api.Table{Columns: people(), Rows: list}
				a := api.Ask{Kind: api.AskCount, Where: tests, Kids: kids}
				holdRight(t, "nothing", x, a, api.Bound{Places: 1, Moves: 1, Most: api.MaxRows}, 0)
				holdRight(t, "nothing", x, add(a, a), api.Bound{Places: 1, Moves: 2, Most: 2 * api.MaxRows}, 0)
				holdWrong(t, "nothing", x, api.Ask{Kind: api.AskTotal, Where: tests, Kids: kids}, api.ErrMany)
				if _, err := ask.Part(x.Columns, a, "age"); err != api.ErrNone {
					t.Errorf("Part of no tests is %d", err)
				}
			}
			for _, l := range [][]api.Column{nil, {}} {
				if _, err := ask.Type(l, api.Ask{Kind: api.AskCount, Where: tests, Kids: kids}); err != api.ErrMany {
					t.Errorf("Type of no columns is %d", err)
				}
			}
		}
	}
}
