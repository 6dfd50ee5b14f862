// Package runs: what several layers need of the letters and digits of a text.
package runs

// MaxName: letters of a name.
const MaxName = 32

// Letters is how many letters (a to z and _) a text begins with.
func Letters(s string) int { return run(s, letter) }

// Digits is how many digits a text begins with.
func Digits(s string) int { return run(s, digit) }

// Name tells whether a text is 1 to MaxName letters, and nothing else.
func Name(s string) bool {
	return len(s) >= 1 && len(s) <= MaxName && Letters(s) == len(s)
}

// run is how many bytes ahead of all others are so.
func run(s string, so func(byte) bool) int {
	n := 0
	for n < len(s) && so(s[n]) {
		n++
	}
	return n
}

func letter(b byte) bool { return b >= 'a' && b <= 'z' || b == '_' }

func digit(b byte) bool { return b >= '0' && b <= '9' }
