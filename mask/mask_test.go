package mask_test

import (
	"math"
	"math/big"
	"math/rand"
	"slices"
	"testing"

	"hushhouse/api"
	"hushhouse/mask"
)

const most = api.MaxNum

// wrongModuli are numbers that none is reckoned modulo.
func wrongModuli() []int {
	return []int{1, 0, -1, -2, -7, most + 1, 2 * most, 1 << 62, math.MinInt, math.MaxInt}
}

// moduli are numbers that may be reckoned modulo.
func moduli() []int { return []int{2, 3, 4, 7, 10, 1 << 16, most - 1, most} }

// outside are numbers that are not from 0 on below a bound.
func outside(bound int) []int {
	return []int{bound, bound + 1, 2 * bound, -1, -bound, math.MinInt, math.MaxInt}
}

// wrongTeams are numbers of members that may not mask together.
func wrongTeams() []int { return []int{0, api.MaxTeam + 1, api.MaxTeam + 2, 2 * api.MaxTeam, 1000} }

// mod is x modulo m, never below 0, by numbers without bounds.
func mod(x *big.Int, m int) int { return int(new(big.Int).Mod(x, big.NewInt(int64(m))).Int64()) }

func holdMask(t *testing.T, modulus, me, number int, shared []int, want int, werr api.Errno) {
	t.Helper()
	if got, err := mask.Mask(modulus, me, number, shared); got != want || err != werr {
		t.Errorf("Mask(%d, %d, %d, %v) is %d, %d, not %d, %d", modulus, me, number, shared, got, err, want, werr)
	}
}

func TestV1MaskModulus(t *testing.T) {
	for _, m := range wrongModuli() {
		for _, shared := range [][]int{{0}, {0, 0, 0}, {-1, m, 5}, make([]int, api.MaxTeam)} {
			for _, me := range []int{0, -1, 16, 99} {
				holdMask(t, m, me, 0, shared, 0, api.ErrRange)
				holdMask(t, m, me, m, shared, 0, api.ErrRange)
			}
		}
		for _, team := range wrongTeams() { // ahead of how many there are
			holdMask(t, m, 0, 0, make([]int, team), 0, api.ErrRange)
		}
		holdMask(t, m, 0, 0, nil, 0, api.ErrRange)
	}
	for _, m := range moduli() {
		holdMask(t, m, 0, m-1, []int{0}, m-1, api.OK)
	}
}

func TestV1MaskMembers(t *testing.T) {
	for _, m := range moduli() {
		for _, team := range wrongTeams() {
			shared := make([]int, team)
			for _, me := range []int{0, 1, -1, team, math.MaxInt, math.MinInt} { // ahead of who it is and of all numbers
				holdMask(t, m, me, 0, shared, 0, api.ErrMany)
				holdMask(t, m, me, -1, shared, 0, api.ErrMany)
				holdMask(t, m, me, m, slices.Repeat([]int{m}, team), 0, api.ErrMany)
			}
		}
		holdMask(t, m, 0, 0, nil, 0, api.ErrMany)
		holdMask(t, m, 0, 0, []int{}, 0, api.ErrMany)
		for team := 1; team <= api.MaxTeam; team++ {
			for me := range team {
				holdMask(t, m, me, 1, make([]int, team), 1, api.OK)
			}
		}
	}
}

func TestV2Examples(t *testing.T) {
	for _, x := range []struct {
		modulus, me, number int
		shared              []int
		want                int
	}{
		{7, 0, 5, []int{0, 3, 6}, 0},
		{7, 1, 1, []int{3, 0, 2}, 0},
		{7, 2, 4, []int{6, 2, 0}, 3},
		{100, 0, 5, []int{50, 20, 3}, 28},
		{100, 1, 5, []int{50, 20, 3}, 58},
		{100, 2, 5, []int{50, 20, 3}, 35},
		{100, 0, 99, []int{7, 1}, 0},
		{100, 1, 0, []int{1, 7}, 99},
		{100, 1, 0, []int{0, 7}, 0},
		{100, 0, 42, []int{99}, 42},
		{2, 1, 1, []int{1, 1, 1}, 1},
		{2, 0, 1, []int{0, 1, 1}, 1},
		{2, 0, 1, []int{1, 1, 0}, 0},
		{most, 0, most - 1, []int{0, most - 1}, most - 2},
		{most, 1, 0, []int{most - 1, 0}, 1},
		{most, 0, most - 1, slices.Repeat([]int{most - 1}, 16), most - 16},
		{most, 15, most - 1, slices.Repeat([]int{most - 1}, 16), 14},
		{most, 15, 0, slices.Repeat([]int{1}, 16), most - 15},
	} {
		holdMask(t, x.modulus, x.me, x.number, x.shared, x.want, api.OK)
	}
}

// TestV2Own: what stands for the member itself puts nothing in, but must be such a number.
func TestV2Own(t *testing.T) {
	for _, m := range moduli() {
		for team := 1; team <= api.MaxTeam; team++ {
			for me := range team {
				shared := slices.Repeat([]int{1}, team)
				want, err := mask.Mask(m, me, 0, shared)
				if err != api.OK {
					t.Fatalf("Mask(%d, %d, 0, %v) tells %d", m, me, shared, err)
				}
				for _, own := range []int{0, 1, m / 2, m - 1} {
					shared[me] = own
					holdMask(t, m, me, 0, shared, want, api.OK)
				}
				for _, own := range outside(m) {
					shared[me] = own
					holdMask(t, m, me, 0, shared, 0, api.ErrRange)
				}
			}
		}
	}
}

func TestV2Wrong(t *testing.T) {
	for _, m := range moduli() {
		for _, team := range []int{1, 2, 3, api.MaxTeam} {
			for _, me := range outside(team) {
				holdMask(t, m, me, 0, make([]int, team), 0, api.ErrRange)
			}
			for me := range team {
				for _, bad := range outside(m) {
					holdMask(t, m, me, bad, make([]int, team), 0, api.ErrRange)
					for at := range team {
						shared := make([]int, team)
						shared[at] = bad
						holdMask(t, m, me, m-1, shared, 0, api.ErrRange)
					}
				}
			}
		}
	}
}

// slowMask says what V2 says by numbers without bounds.
func slowMask(modulus, me, number int, shared []int) int {
	x := big.NewInt(int64(number))
	for other, s := range shared {
		if other > me {
			x.Add(x, big.NewInt(int64(s)))
		}
		if other < me {
			x.Sub(x, big.NewInt(int64(s)))
		}
	}
	return mod(x, modulus)
}

func anyNumbers(any *rand.Rand, many, modulus int) []int {
	out := make([]int, many)
	for i := range out {
		out[i] = any.Intn(modulus)
	}
	return out
}

func TestV2Sweep(t *testing.T) {
	any := rand.New(rand.NewSource(12))
	for range 20000 {
		m := moduli()[any.Intn(len(moduli()))]
		shared := anyNumbers(any, 1+any.Intn(api.MaxTeam), m)
		me, number := any.Intn(len(shared)), any.Intn(m)
		holdMask(t, m, me, number, shared, slowMask(m, me, number, shared), api.OK)
	}
}

// TestV2NobodyIsSeen: whatever a member's number is, each masked number comes of as many shared ones, so that it tells nothing.
func TestV2NobodyIsSeen(t *testing.T) {
	for m := 2; m < 6; m++ {
		for me := range 3 {
			for number := range m {
				came := make([]int, m)
				for i := range m * m {
					shared := slices.Insert([]int{i / m, i % m}, me, 0)
					got, err := mask.Mask(m, me, number, shared)
					if err != api.OK {
						t.Fatalf("Mask(%d, %d, %d, %v) tells %d", m, me, number, shared, err)
					}
					came[got]++
				}
				if !slices.Equal(came, slices.Repeat([]int{m}, m)) {
					t.Errorf("modulo %d, member %d's %d is masked as %v times each", m, me, number, came)
				}
			}
		}
	}
}
