package ask

import (
	"slices"

	"hushhouse/api"
)

// bound is what is known of the answer of a question on a level; what is wrong with the question is thrown.
func bound(l []api.Column, a api.Ask, level int) api.Bound {
	must(level <= api.MaxAsk, api.ErrMuch)
	must(len(a.Kids) == kids(a.Kind), api.ErrMany)
	var below [2]api.Bound
	for i, kid := range a.Kids {
		below[i] = bound(l, kid, level+1)
	}
	// The kids' bounds are within their limits, so that nothing that is reckoned of them is above 2^60.
	b := reckoned(l, a, below[0], below[1])
	must(b.Places <= api.MaxCells && b.Moves <= api.MaxAnswer && b.Most <= api.MaxAnswer, api.ErrMuch)
	return b
}

// kids is how many kids a kind has; ErrKind is thrown, if it is none.
func kids(kind int) int {
	switch kind {
	case api.AskCount, api.AskSum, api.AskBins:
		return 0
	case api.AskTimes, api.AskTotal, api.AskPick, api.AskClamp:
		return 1
	case api.AskAdd, api.AskSub, api.AskJoin:
		return 2
	}
	panic(wrong{api.ErrKind})
}

// reckoned is the bound of a question of a right kind, whatever its size, of those of its kids.
func reckoned(l []api.Column, a api.Ask, x, y api.Bound) api.Bound {
	switch a.Kind {
	case api.AskCount:
		passing(l, a.Where)
		return api.Bound{Places: 1, Moves: 1, Most: api.MaxRows}
	case api.AskSum:
		find(l, a.Column)
		far := span(a.Low, a.High)
		passing(l, a.Where)
		return api.Bound{Places: 1, Moves: far, Most: api.MaxRows * far}
	case api.AskBins:
		at := find(l, a.Column)
		passing(l, a.Where)
		return api.Bound{Places: l[at].Size, Moves: 1, Most: api.MaxRows}
	case api.AskTimes:
		far := span(a.Low, a.Low)
		return api.Bound{Places: x.Places, Moves: far * x.Moves, Most: far * x.Most}
	case api.AskJoin:
		return api.Bound{Places: x.Places + y.Places, Moves: x.Moves + y.Moves, Most: max(x.Most, y.Most)}
	case api.AskTotal:
		return api.Bound{Places: 1, Moves: x.Moves, Most: x.Places * x.Most}
	case api.AskPick:
		must(a.Low >= 0 && a.Low < x.Places, api.ErrRange)
		return api.Bound{Places: 1, Moves: x.Moves, Most: x.Most}
	case api.AskClamp:
		return api.Bound{Places: x.Places, Moves: x.Moves, Most: span(a.Low, a.High)}
	default: // AskAdd and AskSub
		must(x.Places == y.Places, api.ErrFit)
		return api.Bound{Places: x.Places, Moves: x.Moves + y.Moves, Most: x.Most + y.Most}
	}
}

// find is where a column stands; ErrName is thrown, if there is none.
func find(l []api.Column, name string) int {
	at := slices.IndexFunc(l, func(c api.Column) bool { return c.Name == name })
	must(at >= 0, api.ErrName)
	return at
}

// span is how far the numbers from low to high are from 0, at most; ErrRange is thrown, if they are none that may be written.
func span(low, high int) int {
	must(-api.MaxValue <= low && low <= high && high <= api.MaxValue, api.ErrRange)
	return max(-low, high)
}
