package ask

import "hushhouse/api"

// answer is what a right question is answered, a list of its own each time.
func answer(t api.Table, a api.Ask) []int {
	into := func(v int) int { return min(max(v, a.Low), a.High) }
	kid := func(i int) []int { return answer(t, a.Kids[i]) }
	switch a.Kind {
	case api.AskCount:
		return gather(t, a.Where, 1, func(out, row []int) { out[0]++ })
	case api.AskSum:
		at := find(t.Columns, a.Column)
		return gather(t, a.Where, 1, func(out, row []int) { out[0] += into(row[at]) })
	case api.AskBins:
		at := find(t.Columns, a.Column)
		return gather(t, a.Where, t.Columns[at].Size, func(out, row []int) { out[row[at]]++ })
	case api.AskAdd:
		return pair(kid(0), kid(1), func(x, y int) int { return x + y })
	case api.AskSub:
		return pair(kid(0), kid(1), func(x, y int) int { return x - y })
	case api.AskTimes:
		return each(kid(0), func(x int) int { return a.Low * x })
	case api.AskJoin:
		return append(kid(0), kid(1)...)
	case api.AskTotal:
		return []int{total(kid(0))}
	case api.AskPick:
		return []int{kid(0)[a.Low]}
	default: // AskClamp
		return each(kid(0), into)
	}
}

// gather makes an answer of so many places of the rows that pass, one by one.
func gather(t api.Table, where []api.Test, places int, add func(out, row []int)) []int {
	passes := passing(t.Columns, where)
	out := make([]int, places)
	for _, row := range t.Rows {
		if passes(row) {
			add(out, row)
		}
	}
	return out
}

// pair writes over the first one of two answers, place by place.
func pair(x, y []int, f func(x, y int) int) []int {
	for i := range x {
		x[i] = f(x[i], y[i])
	}
	return x
}

// each writes over an answer, place by place.
func each(x []int, f func(x int) int) []int {
	for i := range x {
		x[i] = f(x[i])
	}
	return x
}

func total(x []int) int {
	all := 0
	for _, v := range x {
		all += v
	}
	return all
}
