package rows

import (
	"iter"
	"slices"
	"strings"

	"hushhouse/api"
)

// size is how many cells there are of columns with right Sizes; if there are more than MaxCells, one more than that: all of them may not fit into a word.
func size(l []api.Column) int {
	n := 1
	for _, c := range l {
		n = min(n*c.Size, api.MaxCells+1)
	}
	return n
}

// wrongRow is what is wrong with a row.
func wrongRow(l []api.Column, row []int) api.Errno {
	if len(row) != len(l) {
		return api.ErrFit
	}
	for i, v := range row {
		if v < 0 || v >= l[i].Size {
			return api.ErrRange
		}
	}
	return api.OK
}

// place is where a row stands among the cells.
func place(l []api.Column, row []int) int {
	at := 0
	for i, c := range l {
		at = at*c.Size + row[i]
	}
	return at
}

// cell is the row that stands at a place among the cells, in memory of its own.
func cell(l []api.Column, at int) []int {
	row := make([]int, len(l))
	for i, c := range slices.Backward(l) {
		row[i] = at % c.Size
		at /= c.Size
	}
	return row
}

// together is how many rows there are in all cells.
func together(cells []int) (int, api.Errno) {
	all := 0
	for _, n := range cells {
		if n < 0 {
			return 0, api.ErrRange
		}
		if n > api.MaxRows-all {
			return 0, api.ErrMuch
		}
		all += n
	}
	return all, api.OK
}

// around goes through the numbers of rows of each cell that are one row away, cell by cell: one less, then one more, if there is room. What it tells holds till it tells the next.
func around(counts []int, room bool) iter.Seq[[]int] {
	return func(yield func([]int) bool) {
		near := slices.Clone(counts) // of this time alone: someone else may be on the way through them too
		for i, n := range counts {
			near[i] = n - 1
			if n > 0 && !yield(near) {
				return
			}
			near[i] = n + 1
			if room && !yield(near) {
				return
			}
			near[i] = n
		}
	}
}

// line is a line with words, one for each of a list.
func line[T any](l []T, word func(T) string) string {
	words := make([]string, len(l))
	for i, x := range l {
		words[i] = word(x)
	}
	return strings.Join(words, " ") + "\n"
}
