package speech_test

import (
	"regexp"
	"slices"
	"strconv"
	"strings"

	"hushhouse/api"
)

// The document's grammar in rules, with which any list of pieces is held against all that may come: it knows nothing of how a text is read.
var rules = map[string][]string{
	"question": {"product", "question sign product"},
	"product":  {"signed * product", "pick"},
	"pick":     {"thing", "pick [ number ]"},
	"thing": {"count", "count tests", "bins name", "bins name tests", "sum name in span", "sum name in span tests",
		"total ( question )", "clamp span ( question )", "join ( question , question )", "( question )"},
	"span":   {"signed .. signed"},
	"tests":  {"where test", "tests and test"},
	"test":   {"name does signed"},
	"signed": {"number", "- above"},
	"number": {"zero", "above"},
}

// spot is how far a rule has come, and at which piece it began.
type spot struct{ rule, part, from int }

// chart goes through pieces, one by one, and has for each all that it may be part of.
type chart struct {
	names []string   // of each rule
	parts [][]string // of each rule
	sets  [][]spot
}

func newChart() *chart {
	c := &chart{names: []string{"all"}, parts: [][]string{{"question"}}}
	for name, ways := range rules {
		for _, way := range ways {
			c.names, c.parts = append(c.names, name), append(c.parts, strings.Fields(way))
		}
	}
	c.sets = [][]spot{c.closed(0, []spot{{}})}
	return c
}

// closed is a set with all that follows from it.
func (c *chart) closed(at int, set []spot) []spot {
	seen := map[spot]bool{}
	var out []spot
	put := func(s spot) {
		if !seen[s] {
			seen[s] = true
			out = append(out, s)
		}
	}
	for _, s := range set {
		put(s)
	}
	for i := 0; i < len(out); i++ {
		s := out[i]
		if s.part == len(c.parts[s.rule]) { // what began where it began goes on; no rule is empty, so that set is whole
			for _, back := range c.sets[s.from] {
				if back.part < len(c.parts[back.rule]) && c.parts[back.rule][back.part] == c.names[s.rule] {
					put(spot{rule: back.rule, part: back.part + 1, from: back.from})
				}
			}
			continue
		}
		for rule, name := range c.names {
			if name == c.parts[s.rule][s.part] {
				put(spot{rule: rule, from: at})
			}
		}
	}
	return out
}

// next tells whether a piece of such classes can come, and if so lets it come.
func (c *chart) next(classes []string) bool {
	var set []spot
	for _, s := range c.sets[len(c.sets)-1] {
		if s.part < len(c.parts[s.rule]) && slices.Contains(classes, c.parts[s.rule][s.part]) {
			set = append(set, spot{rule: s.rule, part: s.part + 1, from: s.from})
		}
	}
	if len(set) == 0 {
		return false
	}
	c.sets = append(c.sets, nil)
	c.sets[len(c.sets)-1] = c.closed(len(c.sets)-1, set)
	return true
}

// whole tells whether all that came is a question.
func (c *chart) whole() bool {
	return slices.Contains(c.sets[len(c.sets)-1], spot{part: 1})
}

// classes are what a piece may stand for in the rules.
func classes(piece string) []string {
	keywords := []string{"count", "sum", "bins", "total", "join", "clamp", "where", "and", "in"}
	switch {
	case piece == "0":
		return []string{"zero"}
	case piece[0] == '0':
		return nil
	case piece[0] >= '1' && piece[0] <= '9':
		return []string{"above"}
	case slices.Contains(keywords, piece):
		return []string{piece}
	case piece[0] == '_' || piece[0] >= 'a' && piece[0] <= 'z':
		if len(piece) > 32 {
			return nil
		}
		return []string{"name"}
	case slices.Contains([]string{"=", "<", "<=", ">", ">=", "<>"}, piece):
		return []string{"does"}
	case piece == "+":
		return []string{"sign"}
	case piece == "-":
		return []string{"sign", "-"}
	}
	return []string{piece}
}

var pieceForm = regexp.MustCompile(`^(?:[a-z_]+|[0-9]+|\.\.|<=|>=|<>|[-+*()\[\],=<>])`)

// within counts, for each bracket that is open, what may be too many there.
type within struct{ base, level, signs, picks, ands int }

// limits goes through the pieces of a text that is right so far, and tells at which of them there is too much.
type limits struct {
	open []within
	last string
}

// ends is what may stand at the end of a product.
var ends = regexp.MustCompile(`^(?:[a-z_]+|[0-9]+|[\])])$`)

// much tells whether a piece (none at the text's end) is too much.
func (l *limits) much(piece string) bool {
	w := &l.open[len(l.open)-1]
	begins := l.last == "" || l.last == "(" || l.last == "*" || l.last == "," // what follows a sign is on the level of its sum
	operator := piece == "+" || piece == "-" && ends.MatchString(l.last)
	switch {
	case begins && w.level > api.MaxAsk:
		return true
	case operator:
		w.level, w.picks, w.ands = w.base, 0, 0
		w.signs++
	case piece == "*":
		w.level++
	case piece == "[":
		w.picks++
	case piece == "and":
		w.ands++
	case piece == ",":
		*w = within{base: w.base, level: w.base}
	case piece == "(":
		l.open = append(l.open, within{base: w.level + 1, level: w.level + 1})
	case piece == ")":
		l.open = l.open[:len(l.open)-1]
	}
	l.last = piece
	return w.signs > api.MaxAsk || w.picks > api.MaxAsk || w.ands > api.MaxAsk-1
}

// slowFault is what the document asks of Read to tell of a text, by the rules above.
func slowFault(s string) api.Fault {
	if len(s) > api.MaxText {
		return api.Fault{Err: api.ErrMuch}
	}
	var list []string
	var ats []int
	for at := 0; ; {
		at += len(s[at:]) - len(strings.TrimLeft(s[at:], " \n"))
		if at == len(s) {
			break
		}
		piece := pieceForm.FindString(s[at:])
		if piece == "" {
			return api.Fault{Err: api.ErrForm, At: at}
		}
		list, ats = append(list, piece), append(ats, at)
		at += len(piece)
	}
	c, l := newChart(), limits{open: []within{{base: 1, level: 1}}}
	for i, piece := range list {
		right := c.next(classes(piece))
		// A piece that cannot go on is too much only where something must begin.
		if (right || l.last == "(" || l.last == "*") && l.much(piece) {
			return api.Fault{Err: api.ErrMuch, At: ats[i]}
		}
		if !right {
			return api.Fault{Err: api.ErrForm, At: ats[i]}
		}
		if n, err := strconv.ParseInt(piece, 10, 64); piece[0] >= '0' && piece[0] <= '9' && (err != nil || n > api.MaxValue) {
			return api.Fault{Err: api.ErrRange, At: ats[i]}
		}
	}
	if (l.last == "(" || l.last == "*") && l.open[len(l.open)-1].level > api.MaxAsk {
		return api.Fault{Err: api.ErrMuch, At: len(s)}
	}
	if !c.whole() {
		return api.Fault{Err: api.ErrForm, At: len(s)}
	}
	return api.Fault{}
}
