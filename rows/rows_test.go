package rows_test

import (
	"fmt"
	"math"
	"slices"
	"strings"
	"testing"

	"hushhouse/api"
	"hushhouse/rows"
)

// c is a column.
func c(name string, size int) api.Column { return api.Column{Name: name, Size: size} }

// sized is columns a, b, c .. with these Sizes.
func sized(sizes ...int) []api.Column {
	var out []api.Column
	for i, n := range sizes {
		out = append(out, c(string(rune('a'+i)), n))
	}
	return out
}

// table is a table with the columns a, b, c ..
func table(l []api.Column, list ...[]int) api.Table { return api.Table{Columns: l, Rows: list} }

// times is a row so many times, each in memory of its own.
func times(n int, row ...int) [][]int {
	out := make([][]int, n)
	for i := range out {
		out[i] = slices.Clone(row)
	}
	return out
}

func equal(a, b api.Table) bool {
	return slices.Equal(a.Columns, b.Columns) && slices.EqualFunc(a.Rows, b.Rows, slices.Equal[[]int])
}

func empty(t api.Table) bool { return len(t.Columns) == 0 && len(t.Rows) == 0 }

// short is the beginning of how a thing is told.
func short(x any) string { return fmt.Sprintf("%.150s", fmt.Sprint(x)) }

func TestColumns(t *testing.T) {
	word := strings.Repeat("abcdefghijklm_nopqrstuvwxyz_zyxw", 2)
	for _, x := range []struct {
		name string
		l    []api.Column
		want api.Errno
	}{
		{"nil", nil, api.ErrMany},
		{"none", []api.Column{}, api.ErrMany},
		{"one", sized(3), api.OK},
		{"MaxColumns", sized(1, 2, 3, 4, 5, 6), api.OK},
		{"one more", sized(1, 1, 1, 1, 1, 1, 1), api.ErrMany},
		{"many more", slices.Repeat(sized(1), 5000), api.ErrMany},

		{"no letter", []api.Column{c("", 1)}, api.ErrForm},
		{"1 letter", []api.Column{c("z", 1)}, api.OK},
		{"_", []api.Column{c("_", 1)}, api.OK},
		{"32 letters", []api.Column{c(word[:32], 1)}, api.OK},
		{"33 letters", []api.Column{c(word[:33], 1)}, api.ErrForm},
		{"32 times _", []api.Column{c(strings.Repeat("_", 32), 1)}, api.OK},
		{"letters of two bytes", []api.Column{c("é", 1)}, api.ErrForm},
		{"a wrong letter at the end", []api.Column{c("abC", 1)}, api.ErrForm},
		{"a nought", []api.Column{c("a\x00", 1)}, api.ErrForm},
		{"the second one", []api.Column{c("a", 1), c("b c", 1)}, api.ErrForm},

		{"two of one name", []api.Column{c("a", 3), c("a", 2)}, api.ErrName},
		{"first and last of one name", []api.Column{c("a", 1), c("b", 1), c("c", 1), c("d", 1), c("e", 1), c("a", 1)}, api.ErrName},
		{"one that begins as another", []api.Column{c("a", 1), c("aa", 1), c("a_", 1), c("_a", 1)}, api.OK},

		{"Size 0", sized(0), api.ErrRange},
		{"Size -1", sized(-1), api.ErrRange},
		{"the least Size", sized(math.MinInt), api.ErrRange},
		{"Size 1", sized(1), api.OK},
		{"Size MaxCells", sized(api.MaxCells), api.OK},
		{"Size MaxCells + 1", sized(api.MaxCells + 1), api.ErrRange},
		{"the greatest Size", sized(math.MaxInt), api.ErrRange},
		{"the last Size", sized(1, 1, 1, 1, 1, 0), api.ErrRange},

		{"a product of MaxCells", sized(64, 64), api.OK},
		{"a product of MaxCells beside 1", sized(1, 1, api.MaxCells, 1, 1), api.OK},
		{"six of 4", sized(4, 4, 4, 4, 4, 4), api.OK},
		{"a product of 17 times 241, just above", sized(17, 241), api.ErrMuch},
		{"a product of 4095", sized(63, 65), api.OK},
		{"a product of twice MaxCells", sized(api.MaxCells, 2), api.ErrMuch},
		{"six of 4 but for one", sized(4, 4, 4, 4, 4, 5), api.ErrMuch},
		{"a product of 2^60", sized(4096, 4096, 4096, 4096, 4096), api.ErrMuch},
		{"a product of 2^72", sized(4096, 4096, 4096, 4096, 4096, 4096), api.ErrMuch},
		{"a product of 2^64", sized(2048, 2048, 2048, 2048, 2048, 512), api.ErrMuch},
		{"a product of 2^64, of other Sizes", sized(4096, 4096, 4096, 4096, 4096, 16), api.ErrMuch},
	} {
		if got := rows.Columns(x.l); got != x.want {
			t.Errorf("Columns of %s is %d, not %d", x.name, got, x.want)
		}
	}
}

func TestEachByteOfAName(t *testing.T) {
	for b := range 256 {
		want := api.ErrForm
		if strings.IndexByte("abcdefghijklmnopqrstuvwxyz_", byte(b)) >= 0 {
			want = api.OK
		}
		for _, name := range []string{string([]byte{byte(b)}), string([]byte{byte(b), 'x'}), string([]byte{'x', byte(b)}), string([]byte{'x', byte(b), 'x'})} {
			if got := rows.Columns([]api.Column{c(name, 1)}); got != want {
				t.Errorf("Columns of the name %q is %d, not %d", name, got, want)
			}
		}
	}
}

func TestColumnsOrderOfErrors(t *testing.T) {
	for _, x := range []struct {
		name string
		l    []api.Column
		want api.Errno
	}{
		{"too many, and a form", append(sized(1, 1, 1, 1, 1, 1), c("", 0)), api.ErrMany},
		{"a form and a Size of one", []api.Column{c("A", 0)}, api.ErrForm},
		{"a name that is none, twice", []api.Column{c("A", 1), c("A", 1)}, api.ErrForm},
		{"a name and a Size of one", []api.Column{c("a", 1), c("a", 0)}, api.ErrName},
		{"a Size ahead of a form", []api.Column{c("a", 0), c("A", 1)}, api.ErrRange},
		{"a Size ahead of a name", []api.Column{c("a", 0), c("a", 1)}, api.ErrRange},
		{"a name ahead of a form", []api.Column{c("a", 1), c("a", 1), c("A", 1)}, api.ErrName},
		{"a name ahead of a Size", []api.Column{c("a", 1), c("a", 1), c("b", 0)}, api.ErrName},
		{"a product ahead of a form", []api.Column{c("a", 64), c("b", 65), c("A", 1)}, api.ErrForm},
		{"a product ahead of a name", []api.Column{c("a", 64), c("b", 65), c("b", 1)}, api.ErrName},
		{"a product ahead of a Size", []api.Column{c("a", 64), c("b", 65), c("c", 0)}, api.ErrRange},
		{"a product that a Size 0 would bring down", []api.Column{c("a", 4096), c("b", 4096), c("c", 0)}, api.ErrRange},
	} {
		if got := rows.Columns(x.l); got != x.want {
			t.Errorf("Columns of %s is %d, not %d", x.name, got, x.want)
		}
	}
}

// wrongTables are tables with which something is wrong, and what.
func wrongTables() []wrongTable {
	l := sized(3, 2)
	return []wrongTable{
		{"nothing at all", api.Table{}, api.ErrMany},
		{"empty columns", table([]api.Column{}, []int{}), api.ErrMany},
		{"a name", table([]api.Column{c("a", 3), c("?", 2)}, []int{2, 1}), api.ErrForm},
		{"two names", table([]api.Column{c("a", 3), c("a", 2)}, []int{2, 1}), api.ErrName},
		{"a Size", table(sized(3, 0), []int{2, 1}), api.ErrRange},
		{"the product", table(sized(4096, 2), []int{2, 1}), api.ErrMuch},
		{"one row too many", table(l, times(api.MaxRows+1, 2, 1)...), api.ErrMuch},
		{"an empty row", table(l, []int{2, 1}, []int{}), api.ErrFit},
		{"a nil row", table(l, nil), api.ErrFit},
		{"a row too short", table(l, []int{2}), api.ErrFit},
		{"a row too long", table(l, []int{2, 1, 0}), api.ErrFit},
		{"a value below 0", table(l, []int{0, -1}), api.ErrRange},
		{"the least value", table(l, []int{math.MinInt, 0}), api.ErrRange},
		{"a first value at its Size", table(l, []int{3, 0}), api.ErrRange},
		{"a second value at its Size", table(l, []int{0, 2}), api.ErrRange},
		{"the greatest value", table(l, []int{0, math.MaxInt}), api.ErrRange},
		{"the last row", table(l, append(times(api.MaxRows-1, 2, 1), []int{2, 2})...), api.ErrRange},
		{"columns, and rows", table(sized(0), times(api.MaxRows+1)...), api.ErrRange},
		{"too many rows, and one of them", table(l, times(api.MaxRows+1, 9)...), api.ErrMuch},
		{"a row that fits not, and has a wrong value", table(l, []int{-1}), api.ErrFit},
		{"a row that fits not ahead of a wrong value", table(l, []int{0}, []int{0, 9}), api.ErrFit},
		{"a wrong value ahead of a row that fits not", table(l, []int{0, 9}, []int{0}), api.ErrRange},
	}
}

type wrongTable struct {
	name string
	t    api.Table
	want api.Errno
}

func TestWrong(t *testing.T) {
	l := sized(3, 2)
	for name, x := range map[string]api.Table{
		"nil rows":        table(l),
		"empty rows":      {Columns: l, Rows: [][]int{}},
		"some rows":       table(l, []int{2, 1}, []int{0, 0}, []int{2, 1}),
		"MaxRows rows":    table(l, times(api.MaxRows, 2, 1)...),
		"greatest values": table(sized(api.MaxCells), []int{api.MaxCells - 1}),
		"six columns":     table(sized(4, 4, 4, 4, 4, 4), []int{3, 3, 3, 3, 3, 3}, []int{0, 1, 2, 3, 0, 1}),
	} {
		if got := rows.Wrong(x); got != api.OK {
			t.Errorf("Wrong of %s is %d", name, got)
		}
	}
	for _, x := range wrongTables() {
		if got := rows.Wrong(x.t); got != x.want {
			t.Errorf("Wrong of %s is %d, not %d", x.name, got, x.want)
		}
	}
}

func TestOthersTellWhatIsWrong(t *testing.T) {
	right := table(sized(3, 2), []int{2, 1})
	for _, x := range wrongTables() {
		if l, err := rows.Cells(x.t); err != x.want || len(l) != 0 {
			t.Errorf("Cells of %s is %s, %d, not %d", x.name, short(l), err, x.want)
		}
		if n, err := rows.Apart(x.t, right); err != x.want || n != 0 {
			t.Errorf("Apart of %s and a right one is %d, %d, not %d", x.name, n, err, x.want)
		}
		if n, err := rows.Apart(right, x.t); err != x.want || n != 0 {
			t.Errorf("Apart of a right one and %s is %d, %d, not %d", x.name, n, err, x.want)
		}
		if s, err := rows.Print(x.t); err != x.want || s != "" {
			t.Errorf("Print of %s is %q, %d, not %d", x.name, s, err, x.want)
		}
		for y := range rows.Near(x.t) {
			t.Errorf("Near of %s tells %s", x.name, short(y))
			break
		}
		for _, y := range wrongTables() {
			if n, err := rows.Apart(x.t, y.t); err != x.want || n != 0 {
				t.Errorf("Apart of %s and %s is %d, %d, not %d", x.name, y.name, n, err, x.want)
			}
		}
	}
}
