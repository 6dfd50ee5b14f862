package rows_test

import (
	"math"
	"slices"
	"testing"

	"hushhouse/api"
	"hushhouse/rows"
)

// with is many noughts, with numbers at some places: place, number, place, number ..
func with(many int, set ...int) []int {
	out := make([]int, many)
	for i := 0; i < len(set); i += 2 {
		out[set[i]] = set[i+1]
	}
	return out
}

func TestCells(t *testing.T) {
	for _, x := range []struct {
		name string
		t    api.Table
		want []int
	}{
		{"no rows", table(sized(3, 2)), with(6)},
		{"some rows", table(sized(3, 2), []int{2, 1}, []int{0, 0}, []int{2, 1}), []int{1, 0, 0, 0, 0, 2}},
		{"in another order", table(sized(3, 2), []int{2, 1}, []int{2, 1}, []int{0, 0}), []int{1, 0, 0, 0, 0, 2}},
		{"the first column weighs most", table(sized(3, 2), []int{1, 0}, []int{0, 1}), []int{0, 1, 1, 0, 0, 0}},
		{"one cell", table(sized(1), times(7, 0)...), []int{7}},
		{"one cell of six columns", table(sized(1, 1, 1, 1, 1, 1), times(2, 0, 0, 0, 0, 0, 0)...), []int{2}},
		{"MaxRows rows", table(sized(2), times(api.MaxRows, 1)...), []int{0, api.MaxRows}},
		{"MaxCells cells", table(sized(64, 64), []int{63, 63}, []int{0, 0}, []int{1, 2}), with(4096, 0, 1, 66, 1, 4095, 1)},
		{"six columns", table(sized(4, 4, 4, 4, 4, 4), []int{3, 2, 1, 0, 1, 2}), with(4096, 3*1024+2*256+64+4+2, 1)},
	} {
		got, err := rows.Cells(x.t)
		if err != api.OK || !slices.Equal(got, x.want) {
			t.Errorf("Cells of %s is %s, %d, not %s", x.name, short(got), err, short(x.want))
		}
	}
}

func TestFromCells(t *testing.T) {
	l := sized(3, 2)
	for _, x := range []struct {
		name  string
		l     []api.Column
		cells []int
		want  [][]int
	}{
		{"none", l, with(6), nil},
		{"some", l, []int{0, 2, 0, 0, 0, 1}, [][]int{{0, 1}, {0, 1}, {2, 1}}},
		{"one of each", l, []int{1, 1, 1, 1, 1, 1}, [][]int{{0, 0}, {0, 1}, {1, 0}, {1, 1}, {2, 0}, {2, 1}}},
		{"one cell", sized(1), []int{3}, times(3, 0)},
		{"MaxRows of one", l, with(6, 3, api.MaxRows), times(api.MaxRows, 1, 1)},
		{"MaxRows of two", l, with(6, 0, 1, 5, api.MaxRows-1), append(times(1, 0, 0), times(api.MaxRows-1, 2, 1)...)},
		{"MaxCells", sized(16, 2, 128), with(4096, 4095, 1, 300, 2), [][]int{{1, 0, 44}, {1, 0, 44}, {15, 1, 127}}},
	} {
		got, err := rows.FromCells(x.l, x.cells)
		if err != api.OK || !equal(got, table(x.l, x.want...)) {
			t.Errorf("FromCells of %s is %s, %d, not %s", x.name, short(got), err, short(x.want))
		}
	}
}

func TestFromCellsWrong(t *testing.T) {
	l := sized(3, 2)
	for _, x := range []struct {
		name  string
		l     []api.Column
		cells []int
		want  api.Errno
	}{
		{"no columns", nil, nil, api.ErrMany},
		{"no columns, one cell", nil, []int{1}, api.ErrMany},
		{"a name, and all else", []api.Column{c("?", 2)}, []int{-1}, api.ErrForm},
		{"two names", []api.Column{c("a", 2), c("a", 2)}, with(4), api.ErrName},
		{"a Size", sized(0), nil, api.ErrRange},
		{"the product", sized(64, 65), with(64 * 65), api.ErrMuch},
		{"the product, and one cell above MaxCells", sized(64, 65), with(4097), api.ErrMuch},
		{"nil", l, nil, api.ErrFit},
		{"one too few", l, with(5), api.ErrFit},
		{"one too many", l, with(7), api.ErrFit},
		{"too few, one below 0", l, []int{-1}, api.ErrFit},
		{"too many, and rows", l, with(7, 0, 5000), api.ErrFit},
		{"one below 0", l, with(6, 3, -1), api.ErrRange},
		{"the least", l, with(6, 5, math.MinInt), api.ErrRange},
		{"one row too many", l, with(6, 3, api.MaxRows+1), api.ErrMuch},
		{"one row too many in all", l, with(6, 0, api.MaxRows, 5, 1), api.ErrMuch},
		{"the greatest", l, with(6, 3, math.MaxInt), api.ErrMuch},
		{"the greatest, behind others", l, with(6, 0, 7, 3, math.MaxInt), api.ErrMuch},
		{"what wraps round to few", l, []int{math.MaxInt, math.MaxInt, 2, 0, 0, 0}, api.ErrMuch},
		{"below 0 ahead of too many", l, []int{0, -1, 5000, 0, 0, 0}, api.ErrRange},
		{"too many ahead of below 0", l, []int{0, 5000, -1, 0, 0, 0}, api.ErrMuch},
		{"too many in all ahead of below 0", l, []int{4000, 97, -1, 0, 0, 0}, api.ErrMuch},
		{"just MaxRows ahead of below 0", l, []int{4000, 96, -1, 0, 0, 0}, api.ErrRange},
		{"below 0 does not make room", l, []int{4096, -1, 1, 0, 0, 0}, api.ErrRange},
	} {
		got, err := rows.FromCells(x.l, x.cells)
		if err != x.want || !empty(got) {
			t.Errorf("FromCells of %s is %s, %d, not %d", x.name, short(got), err, x.want)
		}
	}
}

func TestApart(t *testing.T) {
	l := sized(3, 2)
	a := table(l, []int{2, 1}, []int{0, 0}, []int{2, 1})
	for _, x := range []struct {
		name string
		a, b api.Table
		want int
	}{
		{"one and itself", a, a, 0},
		{"the order of rows alone", a, table(l, []int{0, 0}, []int{2, 1}, []int{2, 1}), 0},
		{"one row more", a, table(l, []int{0, 0}, []int{2, 1}, []int{2, 1}, []int{1, 1}), 1},
		{"one row less", a, table(l, []int{0, 0}, []int{2, 1}), 1},
		{"another row", a, table(l, []int{0, 1}, []int{2, 1}, []int{2, 1}), 2},
		{"what the document's test has", a, table(l, []int{2, 1}, []int{0, 1}), 3},
		{"no rows", a, table(l), 3},
		{"no rows at all", table(l), api.Table{Columns: l, Rows: [][]int{}}, 0},
		{"MaxRows of one and of another", table(l, times(api.MaxRows, 1, 1)...), table(l, times(api.MaxRows, 1, 0)...), 2 * api.MaxRows},
	} {
		for _, y := range [][2]api.Table{{x.a, x.b}, {x.b, x.a}} {
			if n, err := rows.Apart(y[0], y[1]); err != api.OK || n != x.want {
				t.Errorf("Apart of %s is %d, %d, not %d", x.name, n, err, x.want)
			}
		}
	}
}

func TestApartOfOtherColumns(t *testing.T) {
	a := table(sized(3, 2), []int{2, 1})
	for name, l := range map[string][]api.Column{
		"fewer":                        sized(3),
		"more":                         sized(3, 2, 1),
		"another Size":                 sized(3, 3),
		"another Size, less":           sized(2, 2),
		"another name":                 {c("a", 3), c("x", 2)},
		"another order":                {c("b", 2), c("a", 3)},
		"names changed":                {c("b", 3), c("a", 2)},
		"as many cells in other Sizes": sized(2, 3),
	} {
		b := api.Table{Columns: l}
		for _, y := range [][2]api.Table{{a, b}, {b, a}} {
			if n, err := rows.Apart(y[0], y[1]); err != api.ErrFit || n != 0 {
				t.Errorf("Apart of %s is %d, %d", name, n, err)
			}
		}
	}
}
