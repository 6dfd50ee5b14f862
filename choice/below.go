package choice

import (
	"slices"

	"hushhouse/api"
	"hushhouse/dist"
	"hushhouse/ratio"
)

// below is how far each of some scores is below the greatest, and the loss up / down by which that counts.
type below struct {
	up, down int
	far      []int
}

// measured looks how far each score is below the greatest, or tells what is wrong with the loss or with the scores.
func measured(r api.Ratio, l []int) (below, api.Errno) {
	switch {
	case !ratio.Right(r):
		return below{}, api.ErrForm
	case r.Up < r.Down:
		return below{}, api.ErrRange
	case len(l) == 0 || len(l) > api.MaxPick:
		return below{}, api.ErrMany
	case slices.ContainsFunc(l, noScore): // ahead of what is reckoned with them: that would wrap round
		return below{}, api.ErrRange
	}
	best := slices.Max(l)
	far := make([]int, len(l))
	for i, score := range l {
		far[i] = best - score
	}
	if slices.Max(far) > api.MaxReach {
		return below{}, api.ErrRange
	}
	return below{up: r.Up, down: r.Down, far: far}, api.OK
}

// noScore tells whether a number is none that something may score.
func noScore(n int) bool { return n < -api.MaxNum || n > api.MaxNum }

// ways is the product of how many orders there are and in how many ways each one's coin may fall.
func (b below) ways() int {
	all := 1
	for i, m := range b.far {
		all = product(all, i+1, power(b.up, m))
	}
	return all
}

// tooMuch stands for every product above MaxPart.
const tooMuch = api.MaxPart + 1

// product multiplies numbers from 1 to tooMuch. As none makes it less, what is too much stays so, and no product wraps round.
func product(factors ...int) int {
	out := 1
	for _, x := range factors {
		out = min(out*x, tooMuch)
	}
	return out
}

// power is x times itself, n times.
func power(x, n int) int {
	out := 1
	for range n {
		out = product(out, x)
	}
	return out
}

// numbered is the distribution of the numbers of some weights.
func numbered(weights []int) (api.Dist, api.Errno) {
	parts := make([]api.Part, len(weights))
	for i, w := range weights {
		parts[i] = api.Part{Out: []int{i}, Weight: w}
	}
	return dist.Make(parts)
}
