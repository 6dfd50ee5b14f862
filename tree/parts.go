package tree

import (
	"math/bits"

	"hushhouse/api"
)

// tall tells whether time may be halved so often.
func tall(high int) bool { return high >= 0 && high <= api.MaxHigh }

// length is how many steps a node of a level has.
func length(level int) int { return 1 << level }

// last is the step with which a node ends.
func last(s api.Spot) int { return (s.At+1)*length(s.Level) - 1 }

// ending is how many nodes end with the step at a time: those whose length divides how many steps there are then.
func ending(time int) int { return 1 + bits.TrailingZeros(uint(time+1)) }

// toldOf is the number that was told of a node, of which all steps are there; false, if there is none, or one that is beyond what may be told.
func toldOf(s api.Spot, told [][]int) (int, bool) {
	numbers := told[last(s)]
	if s.Level >= len(numbers) {
		return 0, false
	}
	number := numbers[s.Level]
	return number, number >= -api.MaxNum && number <= api.MaxNum
}
