package mask

import "hushhouse/api"

// wrong is what is wrong with a modulus, or with how many members there are.
func wrong(modulus, members int) api.Errno {
	switch {
	case modulus < 2 || modulus > api.MaxNum:
		return api.ErrRange
	case members < 1 || members > api.MaxTeam:
		return api.ErrMany
	}
	return api.OK
}

// unfit is what is wrong with a masked number, or with how many numbers stand beside it.
func unfit(modulus, members, number int, shown []int) api.Errno {
	switch {
	case len(shown) != members:
		return api.ErrFit
	case !below(number, modulus):
		return api.ErrRange
	}
	return api.OK
}

// below tells whether a number is from 0 on below a bound.
func below(number, bound int) bool { return number >= 0 && number < bound }

// plus is the sum of two numbers below a modulus.
func plus(modulus, a, b int) int { return (a + b) % modulus }

// minus is the difference of two numbers below a modulus: never below 0, as a remainder of Go's may be.
func minus(modulus, a, b int) int { return (a + modulus - b) % modulus }

// covered is what a member's shared numbers with some have put into its masked number.
// No other number is looked at: the rest may be anything.
func covered(modulus, me int, shared []int, with func(other int) bool) (int, api.Errno) {
	cover := 0
	for other, number := range shared {
		if !with(other) {
			continue
		}
		if !below(number, modulus) {
			return 0, api.ErrRange
		}
		switch {
		case other > me:
			cover = plus(modulus, cover, number)
		case other < me:
			cover = minus(modulus, cover, number)
		}
	}
	return cover, api.OK
}
