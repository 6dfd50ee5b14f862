// Package whole: what several layers need of whole numbers.
package whole

// Divisor is the greatest number that divides both, whatever their signs: the other one, if one is 0.
func Divisor(a, b int) int {
	for b != 0 {
		a, b = b, a%b
	}
	return max(a, -a)
}
