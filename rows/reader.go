package rows

import (
	"strconv"

	"hushhouse/api"
	"hushhouse/runs"
)

// reader reads a text from its first byte on.
type reader struct {
	text string
	at   int // the next byte; when something is wrong: the byte at which it is
}

// table reads all of the text.
func (r *reader) table() (api.Table, api.Errno) {
	l, err := r.columns()
	if err != api.OK {
		return api.Table{}, err
	}
	t := api.Table{Columns: l}
	for r.at < len(r.text) {
		from := r.at
		row, err := r.row(l)
		if err == api.OK && len(t.Rows) == api.MaxRows {
			r.at, err = from, api.ErrMuch
		}
		if err != api.OK {
			return api.Table{}, err
		}
		t.Rows = append(t.Rows, row)
	}
	return t, api.OK
}

// columns reads the first line.
func (r *reader) columns() ([]api.Column, api.Errno) {
	var l []api.Column
	for more := true; more; more = r.has(' ') {
		c, ok := r.column()
		if !ok {
			return nil, api.ErrForm
		}
		l = append(l, c)
	}
	if !r.has('\n') {
		return nil, api.ErrForm
	}
	err := Columns(l)
	if err != api.OK {
		r.at = 0
	}
	return l, err
}

// column reads one of them.
func (r *reader) column() (api.Column, bool) {
	name, ok := r.name()
	if !ok || !r.has(':') {
		return api.Column{}, false
	}
	n, ok := r.number()
	return api.Column{Name: name, Size: n}, ok
}

// row reads the line of a row.
func (r *reader) row(l []api.Column) ([]int, api.Errno) {
	from := r.at
	row := make([]int, len(l))
	for i := range row {
		if i > 0 && !r.has(' ') {
			return nil, api.ErrForm
		}
		n, ok := r.number()
		if !ok {
			return nil, api.ErrForm
		}
		row[i] = n
	}
	if !r.has('\n') {
		return nil, api.ErrForm
	}
	err := wrongRow(l, row)
	if err != api.OK {
		r.at = from
	}
	return row, err
}

// name reads a name: no letter can go on with one that is as long as it may be.
func (r *reader) name() (string, bool) {
	rest := r.text[r.at:]
	n := runs.Letters(rest)
	r.at += min(n, runs.MaxName)
	return rest[:n], runs.Name(rest[:n])
}

// number reads a number; one that is wrong is so at its first byte.
func (r *reader) number() (int, bool) {
	rest := r.text[r.at:]
	n := runs.Digits(rest)
	value, err := strconv.ParseUint(rest[:n], 10, 31)
	if err != nil || n > 1 && rest[0] == '0' {
		return 0, false
	}
	r.at += n
	return int(value), true
}

// has tells whether a byte is the next one, and if so reads it.
func (r *reader) has(b byte) bool {
	if r.at == len(r.text) || r.text[r.at] != b {
		return false
	}
	r.at++
	return true
}
