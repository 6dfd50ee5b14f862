package pyramid

import (
	"iter"
	"slices"

	"hushhouse/api"
)

// shape is a pyramid without its counts: how many nodes it has, and how many of them are of the lowest level.
type shape struct{ ways, high, nodes, lowest int }

// lay is the shape of a pyramid, if there may be such a one.
func lay(ways, high int) (shape, api.Errno) {
	if ways < 2 || ways > api.MaxWays || high < 0 || high > api.MaxHigh {
		return shape{}, api.ErrRange
	}
	s := shape{ways: ways, high: high, nodes: 1, lowest: 1}
	for range high {
		s.lowest *= ways
		// Left at the first level that is too much, so that no count of nodes wraps round.
		if s.nodes += s.lowest; s.nodes > api.MaxNodes {
			return shape{}, api.ErrMuch
		}
	}
	return s, api.OK
}

// wrong is what is wrong with numbers of which there must be so many.
func wrong(numbers []int, many int) api.Errno {
	switch {
	case len(numbers) != many:
		return api.ErrFit
	case slices.ContainsFunc(numbers, func(x int) bool { return x < -api.MaxGuess || x > api.MaxGuess }):
		return api.ErrRange
	}
	return api.OK
}

// inner is how many nodes have others below them; these are the first ones.
func (s shape) inner() int { return s.nodes - s.lowest }

// below are the nodes just below one, in their order.
func (s shape) below(node int) iter.Seq[int] {
	return func(yield func(int) bool) {
		for i := range s.ways {
			if !yield(node*s.ways + 1 + i) {
				return
			}
		}
	}
}

// together is the sum of the numbers just below a node.
func (s shape) together(numbers []int, node int) int {
	sum := 0
	for b := range s.below(node) {
		sum += numbers[b]
	}
	return sum
}

// rise makes the numbers of all nodes above the lowest, from the last one on, so that those below are there first: each is what made says of the sum of those just below it.
func (s shape) rise(numbers []int, made func(node, sum int) int) {
	for node := s.inner() - 1; node >= 0; node-- {
		numbers[node] = made(node, s.together(numbers, node))
	}
}

// sums are all nodes, each the sum of those just below it.
func (s shape) sums(low []int) []int {
	out := make([]int, s.nodes)
	copy(out[s.inner():], low)
	s.rise(out, func(_, sum int) int { return sum })
	return out
}

// line is what all nodes that agree can stand over, whatever was told: each level of LIFTs divides by one factor more, and each step down by ways once more.
func (s shape) line() (int, api.Errno) {
	out, power := s.lowest, s.ways
	for range s.high {
		power *= s.ways
		// The product never becomes less: it is told as soon as it is too much, and so never wraps round.
		if out *= power - 1; out > api.MaxPart {
			return 0, api.ErrMuch
		}
	}
	return out, api.OK
}

// lifts are the LIFTs of all nodes, over a line.
func (s shape) lifts(told []int, line int) []int {
	out := slices.Clone(told)
	for i := range out {
		out[i] *= line
	}
	leaves := s.sums(slices.Repeat([]int{1}, s.lowest))
	s.rise(out, func(node, sum int) int {
		few, many := leaves[node], leaves[node]*s.ways
		// Divided ahead of the products, so that none wraps round; nothing is left over, as the line has this level's factor and the LIFTs below don't.
		return (many-few)*(out[node]/(many-1)) + (few-1)*(sum/(many-1))
	})
	return out
}

// settle makes LIFTs over the line what agrees, from the top on: what a node is more than the LIFTs just below it is shared out evenly among these.
func (s shape) settle(numbers []int) {
	for node := range s.inner() {
		more := (numbers[node] - s.together(numbers, node)) / s.ways
		for b := range s.below(node) {
			numbers[b] += more
		}
	}
}
