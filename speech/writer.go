package speech

import (
	"strconv"
	"strings"

	"hushhouse/api"
)

// writer writes a text, piece by piece.
type writer struct {
	strings.Builder
	last string // the piece that is written last; none at first
}

// written is the text of a question that can be said; ErrMuch is thrown, if it is longer than a text may be.
func written(a api.Ask) string {
	var w writer
	w.question(a)
	return w.String()
}

// put writes pieces, or a number or a span as if it were one; it stops at a text that is too long, for a question may have far more to say.
func (w *writer) put(l ...string) {
	for _, s := range l {
		if apart(w.last, s) {
			w.WriteByte(' ')
		}
		w.WriteString(s)
		w.last = s
		must(w.Len() <= api.MaxText, api.ErrMuch, 0)
	}
}

// apart tells whether a space stands between two pieces.
func apart(last, next string) bool {
	switch last {
	case "", "(", "[":
		return false
	}
	switch next {
	case ")", "]", "[", ",":
		return false
	}
	return true
}

func (w *writer) question(a api.Ask) {
	switch a.Kind {
	case api.AskCount:
		w.put("count")
	case api.AskSum:
		w.put("sum", a.Column, "in", span(a))
	case api.AskBins:
		w.put("bins", a.Column)
	case api.AskAdd:
		w.sum("+", a.Kids[0], a.Kids[1])
	case api.AskSub:
		w.sum("-", a.Kids[0], a.Kids[1])
	case api.AskTimes:
		w.put(strconv.Itoa(a.Low), "*")
		w.within(a.Kids[0], isSum(a.Kids[0]))
	case api.AskJoin:
		w.put("join", "(")
		w.question(a.Kids[0])
		w.put(",")
		w.question(a.Kids[1])
		w.put(")")
	case api.AskTotal:
		w.put("total")
		w.within(a.Kids[0], true)
	case api.AskPick:
		w.within(a.Kids[0], isSum(a.Kids[0]) || a.Kids[0].Kind == api.AskTimes)
		w.put("[", strconv.Itoa(a.Low), "]")
	case api.AskClamp:
		w.put("clamp", span(a))
		w.within(a.Kids[0], true)
	}
	w.tests(a.Where)
}

// sum writes two questions with a sign between them.
func (w *writer) sum(sign string, x, y api.Ask) {
	w.question(x)
	w.put(sign)
	w.within(y, isSum(y))
}

// within writes a question, in brackets or without them.
func (w *writer) within(a api.Ask, brackets bool) {
	if !brackets {
		w.question(a)
		return
	}
	w.put("(")
	w.question(a)
	w.put(")")
}

func (w *writer) tests(l []api.Test) {
	word := "where"
	for _, t := range l {
		w.put(word, t.Column, signs[t.Do], strconv.Itoa(t.Value))
		word = "and"
	}
}

func isSum(a api.Ask) bool { return a.Kind == api.AskAdd || a.Kind == api.AskSub }

func span(a api.Ask) string { return strconv.Itoa(a.Low) + ".." + strconv.Itoa(a.High) }
