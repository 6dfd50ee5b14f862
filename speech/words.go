package speech

import (
	"hushhouse/api"
	"hushhouse/runs"
)

// words are those that no column is called by here: the kind of question that each begins, or 0.
type words map[string]int

// known are all of them.
func known() words {
	return words{
		"count": api.AskCount, "sum": api.AskSum, "bins": api.AskBins,
		"total": api.AskTotal, "join": api.AskJoin, "clamp": api.AskClamp,
		"where": 0, "and": 0, "in": 0,
	}
}

// names tells whether a text is a name.
func (w words) names(s string) bool {
	if !runs.Name(s) {
		return false
	}
	_, taken := w[s]
	return !taken
}

// signs are those of tests, each at its number; 0 is none.
var signs = [...]string{"", "=", "<", "<=", ">", ">=", "<>"}

// doing is the number of the test that has a sign; 0, if none has it.
func doing(sign string) int {
	for do, s := range signs {
		if s == sign {
			return do
		}
	}
	return 0
}
