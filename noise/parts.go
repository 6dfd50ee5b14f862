package noise

import (
	"slices"

	"hushhouse/api"
	"hushhouse/dist"
	"hushhouse/ratio"
)

// noLoss is what is wrong with a loss.
func noLoss(r api.Ratio) api.Errno {
	switch {
	case !ratio.Right(r):
		return api.ErrForm
	case r.Up < r.Down:
		return api.ErrRange
	}
	return api.OK
}

// into brings a number into low .. high.
func into(number, low, high int) int { return min(max(number, low), high) }

// much tells whether all weights together (u + d times u, as often as reach says, which is not 0) are above MaxPart.
func much(r api.Ratio, reach int) bool {
	all := r.Up + r.Down
	for range reach {
		// The product never becomes less: it is told as soon as it is too much, and so never wraps round.
		if all *= r.Up; all > api.MaxPart {
			return true
		}
	}
	return false
}

// hidden is what may be told of a number from low to high, which are not the same, if that is not too much.
func hidden(r api.Ratio, low, high, number int) (api.Dist, api.Errno) {
	var parts []api.Part
	for z := low; z <= high; z++ {
		far := max(z-number, number-z)
		weight := power(r.Down, far) * power(r.Up, high-low-far)
		if z == low || z == high {
			weight *= r.Up // what lies beyond an end is told as the end
		} else {
			weight *= r.Up - r.Down
		}
		parts = append(parts, api.Part{Out: []int{z}, Weight: weight})
	}
	return dist.Make(parts)
}

// power is x times itself, n times: of what is known not to be too much.
func power(x, n int) int {
	out := 1
	for range n {
		out *= x
	}
	return out
}

// copied is a distribution that shares no memory with the one that it is a copy of.
func copied(d api.Dist) api.Dist {
	out := slices.Clone(d)
	for i, p := range d {
		out[i].Out = slices.Clone(p.Out)
	}
	return out
}
