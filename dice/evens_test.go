package dice_test

import (
	"fmt"
	"math"
	"slices"
	"testing"

	"hushhouse/api"
	"hushhouse/dice"
)

type evensCase struct {
	name  string
	n     int
	bits  []int
	times int
	want  []api.Draw
	err   api.Errno
}

func testEvens(t *testing.T, cases []evensCase) {
	t.Helper()
	for _, c := range cases {
		got, err := dice.Evens(c.n, c.bits, c.times)
		told(t, c.name, got, err, c.want, c.err)
	}
}

func TestB3Evens(t *testing.T) {
	testEvens(t, []evensCase{
		{"of 1 without bits", 1, nil, 3, []api.Draw{x(0, 0), x(0, 0), x(0, 0)}, api.OK},
		{"of 1 with bits", 1, b("11"), 2, []api.Draw{x(0, 0), x(0, 0)}, api.OK},
		{"of 1, MaxOuts times", 1, nil, api.MaxOuts, slices.Repeat([]api.Draw{x(0, 0)}, api.MaxOuts), api.OK},
		{"of 2", 2, b("011"), 9, []api.Draw{x(1, 0), x(1, 1), x(1, 1)}, api.OK},
		{"of 3", 3, b("000110"), 9, []api.Draw{x(2, 0), x(2, 1), x(2, 2)}, api.OK},
		{"of 3, beyond", 3, b("11001101"), 9, []api.Draw{x(4, 0), x(4, 1)}, api.OK},
		{"of 3, beyond twice", 3, b("111110"), 9, []api.Draw{x(6, 2)}, api.OK},
		{"of 4", 4, b("00011011"), 9, []api.Draw{x(2, 0), x(2, 1), x(2, 2), x(2, 3)}, api.OK},
		{"of 5, what is left counts", 5, b("1011" + "11111100"), 9, []api.Draw{x(4, 1), x(8, 2)}, api.OK},
		{"of 6, two are left", 6, b("11100" + "11001"), 9, []api.Draw{x(5, 4), x(5, 1)}, api.OK},
		{"of 8", 8, b("101"), 9, []api.Draw{x(3, 5)}, api.OK},
		{"of MaxPart, the least", api.MaxPart, all(0, 30), 9, []api.Draw{x(30, 0)}, api.OK},
		{"of MaxPart, the greatest", api.MaxPart, all(1, 60), 9, []api.Draw{x(30, api.MaxPart-1), x(30, api.MaxPart-1)}, api.OK},
		{"of one below MaxPart", api.MaxPart - 1, slices.Concat(all(1, 59), b("0")), 9, []api.Draw{x(60, api.MaxPart-2)}, api.OK},
		{"of MaxPart, a bit too few", api.MaxPart, all(0, 29), 9, nil, api.OK},
	})
}

func TestB3BitsAndTimes(t *testing.T) {
	testEvens(t, []evensCase{
		{"nil bits", 3, nil, 3, nil, api.OK},
		{"no bits", 3, []int{}, 3, nil, api.OK},
		{"times 0", 3, b("00"), 0, nil, api.OK},
		{"times 0 of 1", 1, b("00"), 0, nil, api.OK},
		{"times 1", 3, b("0010"), 1, []api.Draw{x(2, 0)}, api.OK},
		{"the bits end with a draw", 3, b("0010"), 9, []api.Draw{x(2, 0), x(2, 2)}, api.OK},
		{"the bits end in the midst", 3, b("001011"), 9, []api.Draw{x(2, 0), x(2, 2)}, api.OK},
		{"the bits end in the midst of the first", 5, b("11"), 9, nil, api.OK},
		{"MaxOuts times", 2, all(1, api.MaxOuts+5), api.MaxOuts, slices.Repeat([]api.Draw{x(1, 1)}, api.MaxOuts), api.OK},
		{"MaxBits bits", 3, all(0, api.MaxBits), 1, []api.Draw{x(2, 0)}, api.OK},
		{"MaxBits bits in one draw", 3, slices.Concat(all(1, api.MaxBits-1), b("0")), 9, []api.Draw{x(api.MaxBits, 2)}, api.OK},
		{"MaxBits bits in the midst", 3, all(1, api.MaxBits), 9, nil, api.OK},
	})
}

func TestB3Errors(t *testing.T) {
	much := all(0, api.MaxBits+1)
	for _, n := range []int{0, -1, api.MaxPart + 1, math.MinInt, math.MaxInt} {
		for _, bits := range [][]int{nil, b("01"), {2}, much} {
			for _, times := range []int{0, 1, -1} {
				got, err := dice.Evens(n, bits, times)
				told(t, fmt.Sprint("of ", n), got, err, nil, api.ErrRange)
			}
		}
	}
	for _, n := range []int{1, 2, 3, api.MaxPart} {
		testEvens(t, []evensCase{
			{"a bit more than MaxBits", n, much, 1, nil, api.ErrMany},
			{"ErrMany ahead of times", n, much, -1, nil, api.ErrMany},
			{"ErrMany ahead of bits", n, all(2, api.MaxBits+1), 0, nil, api.ErrMany},
			{"times below 0", n, b("01"), -1, nil, api.ErrRange},
			{"times above MaxOuts", n, b("01"), api.MaxOuts + 1, nil, api.ErrRange},
			{"the least times", n, nil, math.MinInt, nil, api.ErrRange},
			{"the greatest times", n, nil, math.MaxInt, nil, api.ErrRange},
			{"a bit 2", n, []int{2}, 9, nil, api.ErrRange},
			{"a bit below 0", n, []int{0, -1}, 9, nil, api.ErrRange},
			{"a bit that no draw uses", n, append(all(0, 99), 3), 1, nil, api.ErrRange},
			{"a bit, times 0", n, []int{2}, 0, nil, api.ErrRange},
		})
	}
}

// numbers is B3 word by word: the draws of one number below n.
func numbers(n int, bits []int, times int) []api.Draw {
	var out []api.Draw
	for used := 0; len(out) < times; {
		v, c, from := 1, 0, used
		for v < n || c >= n {
			if v >= n {
				v, c = v-n, c-n
				continue
			}
			if used == len(bits) {
				return out
			}
			v, c, used = 2*v, 2*c+bits[used], used+1
		}
		out = append(out, x(used-from, c))
	}
	return out
}

func TestB3Sweep(t *testing.T) {
	for n := 1; n <= 40; n++ {
		for code := range 1 << 11 {
			bits := written(code, 11)
			got, err := dice.Evens(n, bits, 8)
			told(t, fmt.Sprint("of ", n, " ", bits), got, err, numbers(n, bits, 8), api.OK)
		}
	}
	for i, n := range []int{1000, 1<<20 - 1, 1<<29 + 1, api.MaxPart - 1, api.MaxPart} {
		bits := mixed(i, 5000)
		got, err := dice.Evens(n, bits, api.MaxOuts)
		told(t, fmt.Sprint("of ", n), got, err, numbers(n, bits, api.MaxOuts), api.OK)
	}
}

// TestB3AsOften: of all ways that some bits may fall each number comes in just as many as each other.
func TestB3AsOften(t *testing.T) {
	const many = 12
	for n := 1; n <= 33; n++ {
		times := make([]int, n)
		for code := range 1 << many {
			got, _ := dice.Evens(n, written(code, many), 1)
			for _, d := range got {
				times[d.Out[0]]++
			}
		}
		if slices.Min(times) != slices.Max(times) || times[0] != (1<<many)/n {
			t.Errorf("of %d: they come %v times", n, times)
		}
	}
}
