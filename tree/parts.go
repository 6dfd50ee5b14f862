package tree

import (
	"math/bits"
	"slices"

	"hushhouse/api"
)

// tall tells whether time may be halved so often.
func tall(high int) bool { return high >= 0 && high <= api.MaxHigh }

// length is how many steps a node of a level has.
func length(level int) int { return 1 << level }

// last is the step with which a node ends.
func last(s api.Spot) int { return (s.At+1)*length(s.Level) - 1 }

// ending is how many nodes end with the step at a time: those whose length divides how many steps there are then.
func ending(time int) int { return 1 + bits.TrailingZeros(uint(time+1)) }

// toldOf is the number that was told of a node, of which all steps are there; false, if there is none, or if any number told at its last step is beyond what may be told.
func toldOf(s api.Spot, told [][]int) (int, bool) {
	numbers := told[last(s)]
	// A step with one such number was not told by a counter, so that none of its numbers is taken.
	if s.Level >= len(numbers) || slices.ContainsFunc(numbers, beyond) {
		return 0, false
	}
	return numbers[s.Level], true
}

// beyond tells whether a number is none that may be told.
func beyond(number int) bool { return number < -api.MaxNum || number > api.MaxNum }
