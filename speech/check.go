package speech

import "hushhouse/api"

// shape is what a kind of question may have; of what it does not use that is nothing.
type shape struct {
	kids       int
	column     bool
	least, low int // Low is from least to low
	high       int // High is from -high to high
	tests      int // at most
}

// shaped is the shape of a kind; ErrForm is thrown, if it is none.
func shaped(kind int) shape {
	const most = api.MaxValue
	switch kind {
	case api.AskCount:
		return shape{tests: api.MaxAsk}
	case api.AskSum:
		return shape{column: true, least: -most, low: most, high: most, tests: api.MaxAsk}
	case api.AskBins:
		return shape{column: true, tests: api.MaxAsk}
	case api.AskAdd, api.AskSub, api.AskJoin:
		return shape{kids: 2}
	case api.AskTimes:
		return shape{kids: 1, least: -most, low: most}
	case api.AskTotal:
		return shape{kids: 1}
	case api.AskPick:
		return shape{kids: 1, low: most}
	case api.AskClamp:
		return shape{kids: 1, least: -most, low: most, high: most}
	}
	panic(wrong{api.Fault{Err: api.ErrForm}})
}

// check throws ErrForm, if a question, or one below it, cannot be said.
func (w words) check(a api.Ask) {
	s := shaped(a.Kind)
	form(len(a.Kids) == s.kids)
	form(s.least <= a.Low && a.Low <= s.low)
	form(-s.high <= a.High && a.High <= s.high)
	form(len(a.Where) <= s.tests)
	if s.column {
		form(w.names(a.Column))
	} else {
		form(a.Column == "")
	}
	for _, t := range a.Where {
		form(w.names(t.Column))
		form(t.Do > 0 && t.Do < len(signs))
		form(-api.MaxValue <= t.Value && t.Value <= api.MaxValue)
	}
	for _, kid := range a.Kids {
		w.check(kid)
	}
}

// form throws ErrForm, if something isn't so.
func form(so bool) { must(so, api.ErrForm, 0) }
