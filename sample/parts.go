package sample

import (
	"slices"

	"hushhouse/api"
	"hushhouse/ratio"
)

// wrong is what is wrong with a chance.
func wrong(p api.Ratio) api.Errno {
	switch {
	case !ratio.Right(p):
		return api.ErrForm
	case p.Up > p.Down:
		return api.ErrRange
	}
	return api.OK
}

// much is what is wrong with down, many times, as what chances stand over.
func much(down, many int) api.Errno {
	_, err := ratio.Power(api.Ratio{Up: 1, Down: down}, many)
	return err
}

// weighed are all subsets of so many rows, each with its share of p's Down, many times: that is at most MaxPart, so that no weight wraps round.
func weighed(p api.Ratio, many int) []api.Part {
	parts := []api.Part{{Out: []int{0}, Weight: 1}}
	for row := range many {
		with := make([]api.Part, len(parts))
		for i, part := range parts {
			with[i] = api.Part{Out: []int{part.Out[0] + 1<<row}, Weight: part.Weight * p.Up}
			parts[i].Weight *= p.Down - p.Up
		}
		parts = append(parts, with...)
	}
	return parts
}

// picked is the table of those rows of t that are in a subset. All of it is a copy: it is handed to someone else's function, and t must stay as it is.
func picked(t api.Table, set int) api.Table {
	out := api.Table{Columns: slices.Clone(t.Columns)}
	for i, row := range t.Rows {
		if set>>i&1 == 1 {
			out.Rows = append(out.Rows, slices.Clone(row))
		}
	}
	return out
}
