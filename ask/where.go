package ask

import "hushhouse/api"

// passing tells of a row whether all tests hold of it; what is wrong with the tests is thrown.
func passing(l []api.Column, where []api.Test) func(row []int) bool {
	must(len(where) <= api.MaxAsk, api.ErrMuch)
	var all []func(row []int) bool
	for _, t := range where {
		at := find(l, t.Column)
		holds := holding(t.Do, t.Value)
		all = append(all, func(row []int) bool { return holds(row[at]) })
	}
	return func(row []int) bool {
		for _, holds := range all {
			if !holds(row) {
				return false
			}
		}
		return true
	}
}

// holding tells of a value whether a test holds of it; ErrKind is thrown, if the test does none of what there is.
func holding(do, value int) func(v int) bool {
	switch do {
	case api.TestIs:
		return func(v int) bool { return v == value }
	case api.TestLess:
		return func(v int) bool { return v < value }
	case api.TestMost:
		return func(v int) bool { return v <= value }
	case api.TestMore:
		return func(v int) bool { return v > value }
	case api.TestLeast:
		return func(v int) bool { return v >= value }
	case api.TestNot:
		return func(v int) bool { return v != value }
	}
	panic(wrong{api.ErrKind})
}
