package dice

import (
	"slices"

	"hushhouse/api"
)

// walk is how far a draw has come.
type walk struct {
	node  int
	used  int // bits
	place int // 1, doubled with each bit, and what the total leaves of it: the next digits hang on nothing more, and it stays small
}

// begun is a draw ahead of its first bit.
func begun() walk { return walk{place: 1} }

// leaf tells whether the chance of p has a 1 as its digit at this place.
func (r *Roller) leaf(p api.Part) bool {
	rest := p.Weight * r.place % r.total // what the digits ahead leave of the chance
	return 2*rest >= r.total
}

// even draws numbers from 0 on below a bound.
type even struct {
	below int
	ways  int // that it may have gone so far, each as likely as the others
	at    int // the way that it went, from 0 on
	used  int // bits
}

// Feed takes a bit; the draw that it ends.
func (e *even) Feed(bit int) (api.Draw, bool) {
	e.used++
	e.ways, e.at = 2*e.ways, 2*e.at+bit
	if e.ways < e.below {
		return api.Draw{}, false
	}
	if e.at >= e.below {
		e.ways, e.at = e.ways-e.below, e.at-e.below
		return api.Draw{}, false
	}
	x := api.Draw{Out: []int{e.at}, Bits: e.used}
	*e = even{below: e.below, ways: 1}
	return x, true
}

// Sure is the draw that needs no bits.
func (e *even) Sure() (api.Draw, bool) {
	if e.below != 1 {
		return api.Draw{}, false
	}
	return api.Draw{Out: []int{0}}, true
}

// drawer is what draws bit by bit, or without bits.
type drawer interface {
	Feed(bit int) (api.Draw, bool)
	Sure() (api.Draw, bool)
}

// draws has something draw some times, or till there are no bits.
func draws(from drawer, bits []int, times int) ([]api.Draw, api.Errno) {
	if len(bits) > api.MaxBits {
		return nil, api.ErrMany
	}
	if times < 0 || times > api.MaxOuts || slices.ContainsFunc(bits, func(b int) bool { return b != 0 && b != 1 }) {
		return nil, api.ErrRange
	}
	var out []api.Draw
	for len(out) < times {
		x, left, ok := next(from, bits)
		if !ok {
			break
		}
		out, bits = append(out, x), left
	}
	return out, api.OK
}

// next is the next draw and the bits that it leaves, if they don't end in its midst.
func next(from drawer, bits []int) (api.Draw, []int, bool) {
	if x, ok := from.Sure(); ok {
		return x, bits, true
	}
	for i, b := range bits {
		if x, ok := from.Feed(b); ok {
			return x, bits[i+1:], true
		}
	}
	return api.Draw{}, nil, false
}
