package speech

import (
	"strconv"
	"strings"

	"hushhouse/api"
	"hushhouse/runs"
)

// reader reads the pieces of a text by the grammar, each part of it by a method of that part's name; what is wrong is thrown.
type reader struct {
	pieces
	words
}

func (r *reader) question(level int) api.Ask {
	a := r.product(level)
	for n := 0; r.is("+") || r.is("-"); n++ {
		r.must(n < api.MaxAsk, api.ErrMuch)
		kind := api.AskSub
		if r.is("+") {
			kind = api.AskAdd
		}
		r.step()
		a = api.Ask{Kind: kind, Kids: []api.Ask{a, r.product(level)}}
	}
	return a
}

// product looks at the level of a question, too: each begins with a product on its own level.
func (r *reader) product(level int) api.Ask {
	r.must(level <= api.MaxAsk, api.ErrMuch)
	if !r.is("-") && runs.Digits(r.next()) == 0 {
		return r.pick(level)
	}
	low := r.signed()
	r.take("*")
	return api.Ask{Kind: api.AskTimes, Low: low, Kids: []api.Ask{r.product(level + 1)}}
}

func (r *reader) pick(level int) api.Ask {
	a := r.thing(level)
	for n := 0; r.is("["); n++ {
		r.must(n < api.MaxAsk, api.ErrMuch)
		r.step()
		a = api.Ask{Kind: api.AskPick, Low: r.number(), Kids: []api.Ask{a}}
		r.take("]")
	}
	return a
}

func (r *reader) thing(level int) api.Ask {
	if r.is("(") {
		return r.bracketed(level)
	}
	a := api.Ask{Kind: r.words[r.next()]}
	r.must(a.Kind != 0, api.ErrForm)
	r.step()
	switch a.Kind {
	case api.AskCount:
		a.Where = r.tests()
	case api.AskBins:
		a.Column = r.name()
		a.Where = r.tests()
	case api.AskSum:
		a.Column = r.name()
		r.take("in")
		a.Low, a.High = r.span()
		a.Where = r.tests()
	case api.AskTotal:
		a.Kids = []api.Ask{r.bracketed(level)}
	case api.AskClamp:
		a.Low, a.High = r.span()
		a.Kids = []api.Ask{r.bracketed(level)}
	case api.AskJoin:
		a.Kids = r.both(level)
	}
	return a
}

// bracketed reads a question in brackets that stand on a level.
func (r *reader) bracketed(level int) api.Ask {
	r.take("(")
	a := r.question(level + 1)
	r.take(")")
	return a
}

// both reads two questions in brackets that stand on a level.
func (r *reader) both(level int) []api.Ask {
	r.take("(")
	x := r.question(level + 1)
	r.take(",")
	y := r.question(level + 1)
	r.take(")")
	return []api.Ask{x, y}
}

func (r *reader) span() (low, high int) {
	low = r.signed()
	r.take("..")
	return low, r.signed()
}

func (r *reader) tests() []api.Test {
	if !r.has("where") {
		return nil
	}
	l := []api.Test{r.test()}
	for r.is("and") {
		r.must(len(l) < api.MaxAsk, api.ErrMuch)
		r.step()
		l = append(l, r.test())
	}
	return l
}

func (r *reader) test() api.Test {
	column := r.name()
	do := doing(r.next())
	r.must(do > 0, api.ErrForm)
	r.step()
	return api.Test{Column: column, Do: do, Value: r.signed()}
}

// name reads a name, in memory of its own: it may stand in a long text.
func (r *reader) name() string {
	s := r.next()
	r.must(r.names(s), api.ErrForm)
	r.step()
	return strings.Clone(s)
}

func (r *reader) signed() int {
	if !r.has("-") {
		return r.number()
	}
	r.must(!r.is("0"), api.ErrForm)
	return -r.number()
}

func (r *reader) number() int {
	s := r.next()
	r.must(runs.Digits(s) > 0 && (s[0] != '0' || len(s) == 1), api.ErrForm)
	n, err := strconv.Atoi(s)
	r.must(err == nil && n <= api.MaxValue, api.ErrRange)
	r.step()
	return n
}
