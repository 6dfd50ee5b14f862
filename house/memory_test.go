package house_test

import (
	"reflect"
	"slices"
	"strings"
	"testing"
	"unsafe"

	"hushhouse/api"
	"hushhouse/house"
)

// roomy lays a list with spare room behind it, so that what is written there is seen.
func roomy[T any](l []T, behind T) []T {
	return append(append(make([]T, 0, len(l)+2), l...), behind, behind)[:len(l)]
}

// wholeList is all of a list with its spare room.
func wholeList[T any](l []T) []T { return slices.Clone(l[:cap(l)]) }

func roomyTable() api.Table {
	x := people()
	for i, row := range x.Rows {
		x.Rows[i] = roomy(row, 91)
	}
	return api.Table{Columns: roomy(x.Columns, api.Column{Name: "spare", Size: 92}), Rows: roomy(x.Rows, []int{93})}
}

func wholeTable(x api.Table) api.Table {
	out := api.Table{Columns: wholeList(x.Columns)}
	for _, row := range x.Rows[:cap(x.Rows)] {
		out.Rows = append(out.Rows, append([]int{len(row)}, wholeList(row)...))
	}
	return out
}

func roomyAsk(a api.Ask) api.Ask {
	var kids []api.Ask
	for _, kid := range a.Kids {
		kids = append(kids, roomyAsk(kid))
	}
	a.Where, a.Kids = roomy(a.Where, api.Test{Column: "spare", Do: 94}), roomy(kids, api.Ask{Kind: 95})
	return a
}

func wholeAsk(a api.Ask) api.Ask {
	a.Where, a.Kids = wholeList(a.Where), wholeList(a.Kids)
	for i, kid := range a.Kids {
		a.Kids[i] = wholeAsk(kid)
	}
	return a
}

func TestE2OnlyRead(t *testing.T) {
	for _, a := range append(someAsks(), api.Ask{}, bins("none"), made(api.AskJoin, 0, count())) {
		for _, bits := range [][]int{nil, {0, 1, 0}, {2}, make([]int, 99)} {
			x, a, bits := roomyTable(), roomyAsk(a), roomy(bits, 7)
			wasTable, wasAsk, wasBits := wholeTable(x), wholeAsk(a), wholeList(bits)
			h, err := house.Open(x, diskOf(append(wordsOf(first()), make([]int64, 20)...)...))
			if err != api.OK {
				t.Fatalf("Open tells %d", err)
			}
			for range 3 { // paid, paid, and no room
				h.Ask(api.Question{Purse: "a_purse", Ask: a, R: f(2, 1), High: 3, Bits: bits})
			}
			if !reflect.DeepEqual(wholeTable(x), wasTable) || !reflect.DeepEqual(wholeAsk(a), wasAsk) || !slices.Equal(wholeList(bits), wasBits) {
				t.Errorf("what was handed in became %v, %v, %v", wholeTable(x), wholeAsk(a), wholeList(bits))
			}
		}
	}
}

// TestE2NothingIsKept: the table may be changed as soon as the house is open, the question as soon as it is answered.
func TestE2NothingIsKept(t *testing.T) {
	x := roomyTable()
	h, err := house.Open(x, newDisk(180))
	if err != api.OK {
		t.Fatalf("Open tells %d", err)
	}
	holdPurse(t, h, "a", f(most, 1), api.OK)
	for i, row := range x.Rows {
		for k := range row {
			row[k] = 9
		}
		x.Rows[i] = []int{1}
	}
	for i := range x.Columns {
		x.Columns[i] = api.Column{Name: "spoilt", Size: 1}
	}
	q := question("a", roomyAsk(made(api.AskJoin, 0, bins("age"), count(girls()))), 2, 0, 1)
	q.Bits = make([]int, 5)
	want := api.Told{Values: []int{1, 0, 1, 1, 1}, Bits: 5, Lost: f(4, 1)}
	got, err := h.Ask(q)
	q.Bits[0], q.Ask.Kids[1].Where[0].Value, q.Ask.Kids[0] = 1, 0, api.Ask{Kind: 77}
	if err != api.OK || !slices.Equal(got.Values, want.Values) {
		t.Errorf("%v, %d is told", got, err)
	}
	q.Ask, q.Bits = made(api.AskJoin, 0, bins("age"), count(girls())), make([]int, 5)
	holdAsk(t, h, q, want, api.OK)
	holdEntries(t, h, bookOpen("a", f(most, 1)), spend("a", f(4, 1)), spend("a", f(4, 1)))
}

// TestE2NamesAreKeptAlone: of a long text a piece of which is a name, the house keeps the name and nothing else.
func TestE2NamesAreKeptAlone(t *testing.T) {
	text := strings.Repeat("name", 1000)
	name := text[400:404]
	h, _ := rich(t)
	holdPurse(t, h, name, f(2, 1), api.OK)
	holdAsk(t, h, question(name, count(), 1, 0, 0), api.Told{Values: []int{0}, Lost: f(1, 1)}, api.OK)
	l, _ := h.Entries()
	for _, e := range l[1:] {
		if e.Name != "name" || unsafe.StringData(e.Name) == unsafe.StringData(name) {
			t.Errorf("the name of %v is the one that was handed in", e)
		}
	}
}

// TestE2AnswersAreNew: whoever writes over what was answered, its spare room too, changes neither the house nor another answer.
func TestE2AnswersAreNew(t *testing.T) {
	h, _ := rich(t)
	want := []api.Entry{bookOpen("a", f(most, 1))}
	q := question("a", bins("age"), 2, 0, 1)
	q.Bits = make([]int, 4)
	var lists [][]api.Entry
	var told []api.Told
	for range 12 {
		got, err := h.Ask(q)
		other, oerr := h.Ask(q)
		if err != api.OK || oerr != api.OK {
			t.Fatalf("Ask tells %d, %d", err, oerr)
		}
		all := other.Values[:cap(other.Values)]
		for i := range all {
			all[i] = -12345
		}
		told = append(told, got)
		want = append(want, spend("a", f(2, 1)), spend("a", f(2, 1)))
		kept, _ := h.Entries()
		spoilt, _ := h.Entries()
		lists = append(lists, kept)
		spoilt = spoilt[:cap(spoilt)]
		for i := range spoilt {
			spoilt[i] = api.Entry{Do: -1, Name: "spoilt"}
		}
		holdEntries(t, h, want...)
	}
	for i := range told {
		if !slices.Equal(told[i].Values, []int{1, 0, 1, 1}) || !slices.Equal(lists[i], want[:2*i+3]) {
			t.Errorf("what was answered became %v, %v", told[i], lists[i])
		}
	}
}

// TestE1TwoHouses: of two disks one house knows nothing of the other one, nor does a broken one break another.
func TestE1TwoHouses(t *testing.T) {
	a, b := newDisk(90), newDisk(90)
	one, two := opened(t, a), opened(t, b)
	holdPurse(t, one, "a", f(2, 1), api.OK)
	holdEntries(t, two)
	holdPurse(t, two, "a", f(3, 1), api.OK)
	b.left = 0
	holdPurse(t, two, "b", f(3, 1), api.ErrPower)
	holdBroken(t, two, b)
	holdPurse(t, one, "b", f(2, 1), api.OK)
	holdEntries(t, one, bookOpen("a", f(2, 1)), bookOpen("b", f(2, 1)))
}

// TestE1TheBookIsRemembered: an open house knows its entries, whatever becomes of the disk.
func TestE1TheBookIsRemembered(t *testing.T) {
	d := newDisk(90)
	h := opened(t, d)
	holdPurse(t, h, "a", f(2, 1), api.OK)
	clear(d.words)
	holdEntries(t, h, bookOpen("a", f(2, 1)))
	holdPurse(t, h, "a", f(2, 1), api.ErrName)
	holdPurse(t, h, "b", f(2, 1), api.OK)
	if !slices.Equal(d.words[9:18], wordsOf(bookOpen("b", f(2, 1)))) || d.words[0] != 0 {
		t.Errorf("the disk has %v", d.words)
	}
	holdEntries(t, opened(t, d))
}

func TestE3NilAndEmptyAreTheSame(t *testing.T) {
	for _, list := range [][][]int{nil, {}} {
		for _, bits := range [][]int{nil, {}, roomy([]int{}, 7)} {
			h, err := house.Open(api.Table{Columns: people().Columns, Rows: list}, newDisk(90))
			if err != api.OK {
				t.Fatalf("Open tells %d", err)
			}
			holdPurse(t, h, "a", f(9, 1), api.OK)
			for _, where := range [][]api.Test{nil, {}} {
				for _, kids := range [][]api.Ask{nil, {}} {
					q := question("a", api.Ask{Kind: api.AskCount, Where: where, Kids: kids}, 1, 3, 3)
					q.Bits = bits
					holdAsk(t, h, q, api.Told{Values: []int{3}, Lost: f(1, 1)}, api.OK)
				}
			}
			q := question("a", count(), 2, 0, 1)
			q.Bits = bits
			holdAsk(t, h, q, api.Told{}, api.ErrNone)
		}
	}
}
