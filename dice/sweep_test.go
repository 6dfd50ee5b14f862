package dice_test

import (
	"fmt"
	"math/big"
	"slices"
	"testing"

	"hushhouse/api"
	"hushhouse/dice"
)

// written is a number as so many bits, the greatest one ahead.
func written(n, many int) []int {
	out := make([]int, many)
	for i := range out {
		out[i] = n >> (many - 1 - i) & 1
	}
	return out
}

// mixed is bits without an order to be seen, the same ones each time.
func mixed(seed, many int) []int {
	out := make([]int, many)
	state := uint64(seed)*2 + 1
	for i := range out {
		state = state*6364136223846793005 + 1442695040888963407
		out[i] = int(state >> 63)
	}
	return out
}

// digit is the k-th one of weight / total behind the point, to the base 2, reckoned with numbers that have no bounds.
func digit(weight, total, k int) uint {
	n := new(big.Int).Lsh(big.NewInt(int64(weight)), uint(k))
	return n.Div(n, big.NewInt(int64(total))).Bit(0)
}

// one is B1 word by word: the draw that bits begin with, if there is one.
func one(d api.Dist, bits []int) (api.Draw, bool) {
	if len(d) == 1 {
		return x(0, d[0].Out...), true
	}
	total := 0
	for _, p := range d {
		total += p.Weight
	}
	node := 0
	for i, bit := range bits {
		var leaves []api.Part
		for _, p := range d {
			if digit(p.Weight, total, i+1) == 1 {
				leaves = append(leaves, p)
			}
		}
		node = 2*node + bit
		if node < len(leaves) {
			return x(i+1, leaves[node].Out...), true
		}
		node -= len(leaves)
	}
	return api.Draw{}, false
}

// several is B2 word by word.
func several(d api.Dist, bits []int, times int) []api.Draw {
	var out []api.Draw
	for len(out) < times {
		next, ok := one(d, bits)
		if !ok {
			break
		}
		out, bits = append(out, next), bits[next.Bits:]
	}
	return out
}

// some are distributions of many kinds.
func some() []api.Dist {
	long := api.Dist{}
	for i := range 300 {
		long = append(long, p(1+i*i%97, i-150, i))
	}
	return []api.Dist{
		weights(1), weights(1, 1), weights(1, 2), weights(2, 1), weights(1, 3, 1), weights(1, 1, 1), weights(2, 1, 1), weights(1, 2, 4, 8, 1),
		weights(3, 5), weights(1, 6), weights(7, 9, 11, 13), weights(1, 1023), weights(1, 1, 1, 1, 1, 1, 1), weights(5, 4, 3, 2, 1, 1),
		weights(api.MaxPart-1, 1), weights(1, api.MaxPart-2), weights(1<<29, 1<<29-1), weights(1<<28+1, 1<<28-7, 3),
		{p(3), p(2, -5), p(1, -5, 0), p(7, 0), p(4, api.MaxNum)}, long,
	}
}

func TestB2Sweep(t *testing.T) {
	for _, d := range some() {
		for code := range 1 << 9 {
			bits := written(code, 9)
			got, err := dice.Rolls(d, bits, 6)
			told(t, fmt.Sprintf("%.40s %v", fmt.Sprint(d), bits), got, err, several(d, bits, 6), api.OK)
		}
		for seed, bits := range [][]int{mixed(1, 700), mixed(2, 700), all(1, 200), all(0, 700)} {
			got, err := dice.Rolls(d, bits, api.MaxOuts)
			told(t, fmt.Sprintf("%.40s %d", fmt.Sprint(d), seed), got, err, several(d, bits, api.MaxOuts), api.OK)
		}
	}
}

// TestB1AsOften: of all ways that some bits may fall an outcome's draw ends in as many as its chance says, but for a part of one that is still under way.
func TestB1AsOften(t *testing.T) {
	const many = 13
	for _, list := range [][]int{{1, 1}, {1, 2}, {1, 3, 1}, {7, 9, 11, 13}, {1, 2, 4, 8, 1}, {5, 4, 3, 2, 1, 1}, {100, 1, 899}} {
		total, times := 0, make([]int, len(list))
		for _, w := range list {
			total += w
		}
		for code := range 1 << many {
			got, _ := dice.Rolls(weights(list...), written(code, many), 1)
			for _, d := range got {
				times[d.Out[0]]++
			}
		}
		for i, w := range list {
			if times[i] != w<<many/total {
				t.Errorf("%v: %d comes %d times of %d", list, i, times[i], 1<<many)
			}
		}
	}
}

// TestMostOutcomes: MaxOuts outcomes with MaxBits bits.
func TestMostOutcomes(t *testing.T) {
	even := weights(all(1, api.MaxOuts)...)
	bits := mixed(3, api.MaxBits)
	got, err := dice.Rolls(even, bits, api.MaxOuts)
	told(t, "all alike", got, err, numbers(api.MaxOuts, bits, api.MaxOuts), api.OK)
	odd := slices.Clone(even)
	odd[0].Weight = 2
	got, err = dice.Rolls(odd, all(1, api.MaxBits), api.MaxOuts)
	told(t, "never ends", got, err, nil, api.OK)
}
