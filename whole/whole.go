// Package whole: what several layers need of whole numbers.
package whole

// Divisor is the greatest number that divides both, whatever their signs: the other one, if one is 0.
func Divisor(a, b int) int {
	for b != 0 {
		a, b = b, a%b
	}
	return max(a, -a)
}

// Lowest are fractions over one line, which is above 0, without what divides all of them and the line.
func Lowest(up []int, down int) ([]int, int) {
	by := down
	for _, x := range up {
		by = Divisor(by, x)
	}
	out := make([]int, len(up))
	for i, x := range up {
		out[i] = x / by
	}
	return out, down / by
}
