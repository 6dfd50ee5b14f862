package speech

import (
	"strings"

	"hushhouse/api"
	"hushhouse/runs"
)

// piece is a run of letters, a run of digits or a sign, and at which byte it begins.
type piece struct {
	text string
	at   int
}

// end is the text of the piece that stands for a text's end.
const end = ""

// cut is a text in pieces, with its end as the last one; ErrForm is thrown at a byte that begins none.
func cut(s string) []piece {
	var out []piece
	for at := 0; at < len(s); {
		if s[at] == ' ' || s[at] == '\n' {
			at++
			continue
		}
		n := long(s[at:])
		must(n > 0, api.ErrForm, at)
		out = append(out, piece{s[at : at+n], at})
		at += n
	}
	return append(out, piece{end, len(s)})
}

// long is how many bytes the piece has that a text begins with; 0, if it begins with none.
func long(s string) int {
	n := max(runs.Letters(s), runs.Digits(s))
	switch {
	case n > 0:
		return n
	case len(s) > 1 && two(s[:2]):
		return 2
	case strings.IndexByte("+-*()[],=<>", s[0]) >= 0:
		return 1
	}
	return 0
}

// two tells whether two bytes are one sign.
func two(s string) bool { return s == ".." || s == "<=" || s == ">=" || s == "<>" }

// pieces are read one behind the other; the text's end is never read.
type pieces struct{ ahead []piece }

// must throws what is wrong, at the piece that is next, if something isn't so.
func (p *pieces) must(so bool, err api.Errno) { must(so, err, p.ahead[0].at) }

// next is the text of the piece that is next.
func (p *pieces) next() string { return p.ahead[0].text }

// is tells whether a piece is next.
func (p *pieces) is(text string) bool { return p.next() == text }

// step reads the piece that is next.
func (p *pieces) step() { p.ahead = p.ahead[1:] }

// has tells whether a piece is next, and if so reads it.
func (p *pieces) has(text string) bool {
	so := p.is(text)
	if so {
		p.step()
	}
	return so
}

// take reads a piece that must be next.
func (p *pieces) take(text string) { p.must(p.has(text), api.ErrForm) }
