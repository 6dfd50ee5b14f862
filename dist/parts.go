package dist

import (
	"iter"
	"math/bits"
	"slices"

	"hushhouse/api"
	"hushhouse/whole"
)

// beyond tells whether a part is none that a distribution may be made of.
func beyond(p api.Part) bool {
	if p.Weight < 0 || p.Weight > api.MaxPart || len(p.Out) > api.MaxWide {
		return true
	}
	return slices.ContainsFunc(p.Out, func(n int) bool { return n < -api.MaxNum || n > api.MaxNum })
}

// order is the order of outcomes.
func order(x, y api.Part) int { return slices.Compare(x.Out, y.Out) }

// same tells whether two parts are the same.
func same(x, y api.Part) bool { return x.Weight == y.Weight && order(x, y) == 0 }

// gather brings parts into order, adds the weights of what is alike and leaves out what has none.
func gather(parts []api.Part) api.Dist {
	sorted := slices.Clone(parts)
	slices.SortFunc(sorted, order)
	kept := sorted[:0]
	for _, p := range sorted {
		if p.Weight == 0 {
			continue
		}
		if last := len(kept) - 1; last >= 0 && order(kept[last], p) == 0 {
			kept[last].Weight += p.Weight
			continue
		}
		kept = append(kept, p)
	}
	return copied(kept)
}

// copied is a list of its own, with outcomes of its own: nothing of what was handed in stands behind it, in its spare room either.
func copied(parts []api.Part) api.Dist {
	out := make(api.Dist, len(parts))
	for i, p := range parts {
		out[i] = api.Part{Out: slices.Clone(p.Out), Weight: p.Weight}
	}
	return out
}

// lowest divides all weights of rising outcomes by their greatest divisor together: d is changed.
func lowest(d api.Dist) (api.Dist, api.Errno) {
	if len(d) == 0 {
		return nil, api.ErrNone
	}
	by := 0
	for _, p := range d {
		by = whole.Divisor(by, p.Weight)
	}
	for i := range d {
		d[i].Weight /= by
	}
	if total(d) > api.MaxPart || len(d) > api.MaxOuts {
		return nil, api.ErrMuch
	}
	return d, api.OK
}

// total is all weights together.
func total(d api.Dist) int {
	sum := 0
	for _, p := range d {
		sum += p.Weight
	}
	return sum
}

// own is a copy of a distribution, or what is wrong with it.
func own(d api.Dist) (api.Dist, api.Errno) {
	made, err := Make(d)
	if err == api.OK && !slices.EqualFunc(d, made, same) {
		return nil, api.ErrForm
	}
	return made, err
}

// ownFor is own for what is handed to a function: of one that isn't there nothing comes.
func ownFor(d api.Dist, there bool) (api.Dist, api.Errno) {
	d, err := own(d)
	if err == api.OK && !there {
		return nil, api.ErrNone
	}
	return d, err
}

// ownTwo is own of a, then of b.
func ownTwo(a, b api.Dist) (api.Dist, api.Dist, api.Errno) {
	a, err := own(a)
	if err != api.OK {
		return nil, nil, err
	}
	b, err = own(b)
	if err != api.OK {
		return nil, nil, err
	}
	return a, b, api.OK
}

// pairs goes through all that a or b may be, in order: the part of a and that of b, a part without weight where one has it not.
func pairs(a, b api.Dist) iter.Seq2[api.Part, api.Part] {
	return func(yield func(x, y api.Part) bool) {
		a, b := a, b // what is left of them this time
		for len(a) > 0 || len(b) > 0 {
			var x, y api.Part
			side := first(a, b)
			if side <= 0 {
				x, a = a[0], a[1:]
			}
			if side >= 0 {
				y, b = b[0], b[1:]
			}
			if !yield(x, y) {
				return
			}
		}
	}
}

// first tells whose first outcome comes first: -1, if a's, 1, if b's, 0, if they are alike.
func first(a, b api.Dist) int {
	switch {
	case len(a) == 0:
		return 1
	case len(b) == 0:
		return -1
	}
	return order(a[0], b[0])
}

// chain is Bind of what is right already: then tells distributions that are right and no one else's.
func chain(d api.Dist, then func([]int) (api.Dist, api.Errno)) (api.Dist, api.Errno) {
	var sum api.Dist
	scale := 1 // what a weight of 1 ahead is worth in sum: all totals so far divide it
	for _, x := range d {
		next, err := then(x.Out)
		if err != api.OK {
			return nil, err
		}
		all := total(next)
		grow := all / whole.Divisor(scale, all)
		scale *= grow
		if scale > api.MaxPart {
			return nil, api.ErrMuch
		}
		sum = plus(times(sum, grow), times(next, x.Weight*(scale/all)))
	}
	if scale*total(d) > api.MaxPart {
		return nil, api.ErrMuch
	}
	return lowest(sum)
}

// behind is each of b behind x: ErrRange, if that is no outcome.
func behind(x []int, b api.Dist) (api.Dist, api.Errno) {
	out := make(api.Dist, len(b))
	for i, y := range b {
		out[i] = api.Part{Out: slices.Concat(x, y.Out), Weight: y.Weight}
		if beyond(out[i]) {
			return nil, api.ErrRange
		}
	}
	return out, api.OK
}

// plus is two lists of rising outcomes in one, the weights of what is alike added. Outcomes never become fewer by it: what is beyond MaxOuts stays so, and need not be gone through.
func plus(a, b api.Dist) api.Dist {
	if len(a) > api.MaxOuts {
		return a
	}
	out := make(api.Dist, 0, len(a)+len(b))
	for x, y := range pairs(a, b) {
		if x.Weight == 0 {
			x.Out = y.Out
		}
		out = append(out, api.Part{Out: x.Out, Weight: x.Weight + y.Weight})
	}
	return out
}

// times multiplies all weights: d is changed.
func times(d api.Dist, by int) api.Dist {
	for i := range d {
		d[i].Weight *= by
	}
	return d
}

// above tells whether up / down is more than the other one: their products don't fit into one word.
func above(up, down, otherUp, otherDown int) bool {
	high, low := bits.Mul64(uint64(up), uint64(otherDown))
	otherHigh, otherLow := bits.Mul64(uint64(otherUp), uint64(down))
	return high > otherHigh || high == otherHigh && low > otherLow
}
