package house

import (
	"slices"
	"strings"

	"hushhouse/api"
	"hushhouse/ask"
	"hushhouse/dice"
)

// copied is a table that whoever handed it in can't change.
func copied(t api.Table) api.Table {
	out := api.Table{Columns: slices.Clone(t.Columns), Rows: slices.Clone(t.Rows)}
	for i, c := range t.Columns {
		out.Columns[i].Name = strings.Clone(c.Name)
	}
	for i, row := range t.Rows {
		out.Rows[i] = slices.Clone(row)
	}
	return out
}

// do does an entry: the book says first whether it may be, and then it lies on the disk ahead of anything that comes of it.
func (h *House) do(e api.Entry) api.Errno {
	if !h.room() {
		return api.ErrMuch
	}
	if err := h.book.Do(e); err != api.OK {
		return err
	}
	if !h.write(recordOf(e)) {
		h.broken = true
		return api.ErrPower
	}
	h.records++
	return api.OK
}

// price is the entry by which a question is paid: who asks of one part of the people pays for that part alone.
func (h *House) price(q api.Question, lost api.Ratio) api.Entry {
	e := api.Entry{Do: api.BookSpend, Name: q.Purse, Loss: lost}
	l := h.table.Columns
	if value, err := ask.Part(l, q.Ask, l[0].Name); err == api.OK {
		e.Do, e.Part = api.BookPart, value
	}
	return e
}

// drawn is one value for each place, and how many bits they used; false, if the bits end first.
func drawn(places []api.Dist, bits []int) ([]int, int, bool) {
	values, used := make([]int, len(places)), 0
	for i, d := range places {
		x, ok := draw(d, bits[used:])
		if !ok {
			return nil, 0, false
		}
		values[i] = x.Out[0]
		used += x.Bits
	}
	return values, used, true
}

// draw is what Rolls draws once; Rolls would look at all bits that are left, for each place again.
func draw(d api.Dist, bits []int) (api.Draw, bool) {
	r, _ := dice.New(d) // nothing is wrong with what Answer tells
	if x, ok := r.Sure(); ok {
		return x, true
	}
	for _, b := range bits {
		if x, ok := r.Feed(b); ok {
			return x, true
		}
	}
	return api.Draw{}, false
}
