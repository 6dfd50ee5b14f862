package rows_test

import (
	"reflect"
	"slices"
	"testing"

	"hushhouse/api"
	"hushhouse/rows"
)

// roomyColumns lays columns with spare room behind them, so that what is written there is seen.
func roomyColumns(l []api.Column) []api.Column {
	return append(slices.Clone(l), c("x", 91), c("y", 92), c("z", 93))[:len(l)]
}

// roomyInts does so with numbers.
func roomyInts(l []int) []int { return append(slices.Clone(l), 97, 98, 99)[:len(l)] }

// roomy does so with a table: behind its columns, its rows and each of them.
func roomy(t api.Table) api.Table {
	out := api.Table{Columns: roomyColumns(t.Columns), Rows: make([][]int, 0, len(t.Rows)+2)}
	for _, row := range append(slices.Clone(t.Rows), []int{94}, []int{95}) {
		out.Rows = append(out.Rows, roomyInts(row))
	}
	out.Rows = out.Rows[:len(t.Rows)]
	return out
}

// whole is a table with all its spare room, deeply copied.
func whole(t api.Table) api.Table {
	out := api.Table{Columns: slices.Clone(t.Columns[:cap(t.Columns)])}
	for _, row := range t.Rows[:cap(t.Rows)] {
		out.Rows = append(out.Rows, append([]int{len(row)}, row[:cap(row)]...))
	}
	return out
}

// copied is a table in memory of its own.
func copied(t api.Table) api.Table {
	out := api.Table{Columns: slices.Clone(t.Columns)}
	for _, row := range t.Rows {
		out.Rows = append(out.Rows, slices.Clone(row))
	}
	return out
}

// spoil writes over all that a table has, its spare room too, and tells whether one list of it was to be seen in another.
func spoil(t api.Table) (shared bool) {
	l := t.Columns[:cap(t.Columns)]
	for i := range l {
		shared = shared || l[i].Size == 1<<40
		l[i] = c("spoilt", 1<<40)
	}
	every := t.Rows[:cap(t.Rows)]
	for i := range every {
		row := every[i][:cap(every[i])]
		for j := range row {
			shared = shared || row[j] == 1<<40
			row[j] = 1 << 40
		}
	}
	clear(every)
	return shared
}

func someTable() api.Table {
	return roomy(table(sized(3, 2), []int{2, 1}, []int{0, 0}, []int{2, 1}, []int{1, 0}))
}

func TestTablesAreNewMemory(t *testing.T) {
	x := someTable()
	cells := roomyInts([]int{1, 3, 0, 2, 0, 5})
	none := roomyInts(make([]int, 6))
	for name, ask := range map[string]func() (api.Table, api.Errno){
		"FromCells":         func() (api.Table, api.Errno) { return rows.FromCells(x.Columns, cells) },
		"FromCells of none": func() (api.Table, api.Errno) { return rows.FromCells(x.Columns, none) },
		"Read": func() (api.Table, api.Errno) {
			got, fault := rows.Read("a:3 b:2\n2 1\n0 0\n1 1\n")
			return got, fault.Err
		},
	} {
		before, cellsBefore, noneBefore := whole(x), slices.Clone(cells[:9]), slices.Clone(none[:9])
		got, err := ask()
		if err != api.OK {
			t.Fatalf("%s is %d", name, err)
		}
		keep := copied(got)
		if spoil(got) {
			t.Errorf("%s: two lists of what comes share memory", name)
		}
		if !reflect.DeepEqual(whole(x), before) || !slices.Equal(cells[:9], cellsBefore) || !slices.Equal(none[:9], noneBefore) {
			t.Errorf("%s: what was handed in is changed, or shared", name)
		}
		if again, _ := ask(); !equal(again, keep) {
			t.Errorf("%s: what came once is to be seen in what comes then", name)
		}
	}
}

func TestCellsAreNewMemory(t *testing.T) {
	x := someTable()
	before := whole(x)
	one, _ := rows.Cells(x)
	two, _ := rows.Cells(x)
	for i := range one[:cap(one)] {
		one[:cap(one)][i] = -7
	}
	if !slices.Equal(two, []int{1, 0, 1, 0, 0, 2}) || !reflect.DeepEqual(whole(x), before) {
		t.Errorf("Cells shares memory: %v", two)
	}
}

func TestNothingIsWritten(t *testing.T) {
	for _, x := range append(wrongTables(), wrongTable{t: someTable()}, wrongTable{t: table(sized(3, 2), times(api.MaxRows, 1, 1)...)}) {
		a, b := roomy(x.t), someTable()
		cells := roomyInts(make([]int, 6))
		wasA, wasB, wasCells := whole(a), whole(b), slices.Clone(cells[:9])
		rows.Columns(a.Columns)
		rows.Wrong(a)
		rows.Cells(a)
		rows.Print(a)
		rows.Apart(a, b)
		rows.Apart(b, a)
		rows.FromCells(a.Columns, cells)
		for range rows.Near(a) {
		}
		if !reflect.DeepEqual(whole(a), wasA) || !reflect.DeepEqual(whole(b), wasB) || !slices.Equal(cells[:9], wasCells) {
			t.Errorf("%s: what was handed in is changed", x.name)
		}
	}
}

// TestNearKeepsNothing: what is handed in may be changed as soon as Near has answered, and what it tells is the caller's, each table.
func TestNearKeepsNothing(t *testing.T) {
	x := someTable()
	want := near(x)
	all := rows.Near(x)
	spoil(x)
	n := 0
	for y := range all {
		if !equal(y, want[n]) {
			t.Errorf("table %d is %s, not %s", n, short(y), short(want[n]))
		}
		if spoil(y) {
			t.Errorf("table %d: two lists share memory", n)
		}
		n++
	}
	list := near(someTable())
	for i := range list {
		if !equal(list[i], want[i]) {
			t.Errorf("table %d was written over", i)
		}
		if spoil(list[i]) {
			t.Errorf("table %d shares memory", i)
		}
	}
}

func TestNilAndEmptyAreTheSame(t *testing.T) {
	l := sized(2)
	a, b := api.Table{Columns: l}, api.Table{Columns: l, Rows: [][]int{}}
	if n, err := rows.Apart(a, b); n != 0 || err != api.OK {
		t.Errorf("Apart is %d, %d", n, err)
	}
	for _, x := range []api.Table{a, b} {
		cells, err := rows.Cells(x)
		text, err2 := rows.Print(x)
		if !slices.Equal(cells, []int{0, 0}) || err != api.OK || text != "a:2\n" || err2 != api.OK || len(near(x)) != 2 {
			t.Errorf("%#v: Cells %v, %d, Print %q, %d, near %d", x, cells, err, text, err2, len(near(x)))
		}
	}
	for _, cells := range [][]int{nil, {}} {
		if _, err := rows.FromCells(nil, cells); err != api.ErrMany {
			t.Errorf("FromCells of nothing is %d", err)
		}
		if _, err := rows.FromCells([]api.Column{}, cells); err != api.ErrMany {
			t.Errorf("FromCells of nothing is %d", err)
		}
		if _, err := rows.FromCells(l, cells); err != api.ErrFit {
			t.Errorf("FromCells of no cells is %d", err)
		}
	}
	for _, row := range [][]int{nil, {}} {
		if err := rows.Wrong(table(l, row)); err != api.ErrFit {
			t.Errorf("Wrong of an empty row is %d", err)
		}
	}
}
