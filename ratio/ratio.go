// Package ratio: fractions of whole numbers that aren't large: see doc/01-ratio.md.
package ratio

import (
	"cmp"

	"hushhouse/api"
	"hushhouse/whole"
)

// Right tells whether a fraction is written as it must be.
func Right(r api.Ratio) bool {
	if r.Up < 0 || r.Up > api.MaxPart || r.Down < 1 || r.Down > api.MaxPart {
		return false
	}
	return whole.Divisor(r.Up, r.Down) == 1
}

// Make is up / down.
func Make(up, down int) (api.Ratio, api.Errno) {
	if up < 0 || down < 1 {
		return api.Ratio{}, api.ErrRange
	}
	d := whole.Divisor(up, down)
	r := api.Ratio{Up: up / d, Down: down / d}
	if r.Up > api.MaxPart || r.Down > api.MaxPart {
		return api.Ratio{}, api.ErrMuch
	}
	return r, api.OK
}

// Times is the product.
func Times(a, b api.Ratio) (api.Ratio, api.Errno) {
	return reckon(a, b, func() (up, down int) { return a.Up * b.Up, a.Down * b.Down })
}

// Over is the quotient.
func Over(a, b api.Ratio) (api.Ratio, api.Errno) {
	return reckon(a, b, func() (up, down int) { return a.Up * b.Down, a.Down * b.Up })
}

// Plus is the sum.
func Plus(a, b api.Ratio) (api.Ratio, api.Errno) {
	return reckon(a, b, func() (up, down int) { return a.Up*b.Down + b.Up*a.Down, a.Down * b.Down })
}

// Minus is the difference.
func Minus(a, b api.Ratio) (api.Ratio, api.Errno) {
	return reckon(a, b, func() (up, down int) { return a.Up*b.Down - b.Up*a.Down, a.Down * b.Down })
}

// Order tells which is the greater: -1, 0, 1.
func Order(a, b api.Ratio) (int, api.Errno) {
	if !Right(a) || !Right(b) {
		return 0, api.ErrForm
	}
	return cmp.Compare(a.Up*b.Down, b.Up*a.Down), api.OK
}

// Power is a fraction times itself, n times.
func Power(r api.Ratio, n int) (api.Ratio, api.Errno) {
	if !Right(r) {
		return api.Ratio{}, api.ErrForm
	}
	if n < 0 || n > api.MaxOuts {
		return api.Ratio{}, api.ErrRange
	}
	out := api.Ratio{Up: 1, Down: 1}
	for range n {
		// Nothing cancels out between powers of one fraction, so that a part that is too large once stays so.
		var err api.Errno
		if out, err = Times(out, r); err != api.OK {
			return api.Ratio{}, err
		}
	}
	return out, api.OK
}

// reckon asks what is done with two fractions only if both are right: then no product of their parts, nor a sum of two, wraps round.
// A quotient by 0 comes out with nothing below the line and a difference below 0 with less than nothing above it: Make tells ErrRange of both.
func reckon(a, b api.Ratio, do func() (up, down int)) (api.Ratio, api.Errno) {
	if !Right(a) || !Right(b) {
		return api.Ratio{}, api.ErrForm
	}
	return Make(do())
}
