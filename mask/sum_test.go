package mask_test

import (
	"math/big"
	"math/rand"
	"slices"
	"testing"

	"hushhouse/api"
	"hushhouse/mask"
)

func holdSum(t *testing.T, modulus int, masked []int, there []bool, shown [][]int, want int, werr api.Errno) {
	t.Helper()
	if got, err := mask.Sum(modulus, masked, there, shown); got != want || err != werr {
		t.Errorf("Sum(%d, %v, %v, %v) is %d, %d, not %d, %d", modulus, masked, there, shown, got, err, want, werr)
	}
}

// square is a list for each of so many members, of that number for each of them.
func square(members, number int) [][]int {
	out := make([][]int, members)
	for i := range out {
		out[i] = slices.Repeat([]int{number}, members)
	}
	return out
}

// set are the members of a subset: member i is there, if the bit i is 1.
func set(members, bits int) []bool {
	out := make([]bool, members)
	for i := range out {
		out[i] = bits>>i&1 == 1
	}
	return out
}

func TestV1SumModulus(t *testing.T) {
	for _, m := range wrongModuli() {
		for _, team := range append(wrongTeams(), 1, 3, api.MaxTeam) { // ahead of how many there are, of what fits and of all numbers
			holdSum(t, m, make([]int, team), make([]bool, team), make([][]int, team), 0, api.ErrRange)
			holdSum(t, m, make([]int, team), make([]bool, team+1), nil, 0, api.ErrRange)
			holdSum(t, m, make([]int, team), slices.Repeat([]bool{true}, team), square(team, 0), 0, api.ErrRange)
		}
		holdSum(t, m, nil, nil, nil, 0, api.ErrRange)
	}
	for _, m := range moduli() {
		holdSum(t, m, []int{m - 1}, []bool{true}, [][]int{{0}}, m-1, api.OK)
	}
}

func TestV1SumMembers(t *testing.T) {
	for _, m := range moduli() {
		for _, team := range wrongTeams() { // ahead of what fits and of all numbers
			holdSum(t, m, make([]int, team), make([]bool, team), make([][]int, team), 0, api.ErrMany)
			holdSum(t, m, make([]int, team), make([]bool, 1), make([][]int, 1), 0, api.ErrMany)
			holdSum(t, m, slices.Repeat([]int{m}, team), slices.Repeat([]bool{true}, team), square(team, 0), 0, api.ErrMany)
		}
		holdSum(t, m, nil, nil, nil, 0, api.ErrMany)
		holdSum(t, m, []int{}, []bool{}, [][]int{}, 0, api.ErrMany)
		holdSum(t, m, nil, []bool{true}, [][]int{{0}}, 0, api.ErrMany)
		for team := 1; team <= api.MaxTeam; team++ {
			holdSum(t, m, make([]int, team), slices.Repeat([]bool{true}, team), square(team, 0), 0, api.OK)
		}
	}
}

func TestV3Examples(t *testing.T) {
	s := [][]int{{0, 3, 6}, {3, 0, 2}, {6, 2, 0}}
	for bits, want := range []int{0, 5, 1, 6, 4, 2, 5, 3} { // of 5, 1 and 4, modulo 7
		holdSum(t, 7, []int{0, 0, 3}, set(3, bits), s, want, api.OK)
	}
	holdSum(t, 100, []int{10}, []bool{true}, [][]int{{77}}, 10, api.OK)
	holdSum(t, 100, []int{10}, []bool{false}, [][]int{{77}}, 0, api.OK)
	holdSum(t, 100, []int{10, 50}, []bool{true, false}, [][]int{{0, 30}, nil}, 80, api.OK)
	holdSum(t, 100, []int{10, 50}, []bool{false, true}, [][]int{nil, {80, 0}}, 30, api.OK)
	holdSum(t, most, slices.Repeat([]int{most - 1}, 16), set(16, 1<<16-1), square(16, most-1), most-16, api.OK)
	holdSum(t, most, slices.Repeat([]int{most - 1}, 16), set(16, 1), square(16, most-1), 14, api.OK)
	holdSum(t, most, slices.Repeat([]int{most - 1}, 16), set(16, 1<<15), square(16, most-1), most-16, api.OK)
	holdSum(t, most, slices.Repeat([]int{0}, 16), set(16, 1<<15), square(16, most-1), most-15, api.OK)
}

func TestV3Fit(t *testing.T) {
	for _, m := range moduli() {
		for _, team := range []int{1, 2, 3, api.MaxTeam} {
			bad := slices.Repeat([]int{-1}, team) // all that is wrong with members comes behind
			for _, other := range []int{0, team - 1, team + 1, 2 * team, 100} {
				holdSum(t, m, bad, slices.Repeat([]bool{true}, other), square(team, -1), 0, api.ErrFit)
				holdSum(t, m, bad, slices.Repeat([]bool{true}, team), square(other, -1), 0, api.ErrFit)
				holdSum(t, m, bad, slices.Repeat([]bool{true}, other), square(other, -1), 0, api.ErrFit)
				holdSum(t, m, make([]int, team), make([]bool, other), square(team, 0), 0, api.ErrFit)
				holdSum(t, m, make([]int, team), make([]bool, team), square(other, 0), 0, api.ErrFit)
			}
			holdSum(t, m, bad, nil, square(team, 0), 0, api.ErrFit)
			holdSum(t, m, bad, make([]bool, team), nil, 0, api.ErrFit)
		}
	}
}

// TestV3Shown: of each who is there, a number for each member, though most of them are not looked at.
func TestV3Shown(t *testing.T) {
	for team := 1; team <= 4; team++ {
		for bits := range 1 << team {
			for me := range team {
				for _, list := range [][]int{nil, {}, make([]int, team-1), make([]int, team+1), make([]int, 100)} {
					shown := square(team, 0)
					shown[me] = list
					want := api.OK
					if bits>>me&1 == 1 && len(list) != team {
						want = api.ErrFit
					}
					holdSum(t, 7, make([]int, team), set(team, bits), shown, 0, want)
				}
			}
		}
	}
}

// TestV3Range: a masked number of one who is there, and what one who is there shows for one who is not; what else there is may be anything.
func TestV3Range(t *testing.T) {
	for team := 1; team <= 4; team++ {
		for bits := range 1 << team {
			there := set(team, bits)
			for _, bad := range outside(7) {
				for me := range team {
					masked := make([]int, team)
					masked[me] = bad
					want := api.OK
					if there[me] {
						want = api.ErrRange
					}
					holdSum(t, 7, masked, there, square(team, 0), 0, want)
					for other := range team {
						shown := square(team, 0)
						shown[me][other] = bad
						want := api.OK
						if there[me] && !there[other] {
							want = api.ErrRange
						}
						holdSum(t, 7, make([]int, team), there, shown, 0, want)
					}
				}
			}
		}
	}
}

// TestV3Order: of each member all that is wrong, ahead of what is wrong with the next one.
func TestV3Order(t *testing.T) {
	there := []bool{true, true, false, true}
	good, short, high := []int{0, 0, 0, 0}, []int{0, 0, 9}, []int{0, 0, 9, 0}
	for _, x := range []struct {
		name   string
		masked []int
		shown  [][]int
		want   api.Errno
	}{
		{"how many ahead of the masked number", []int{9, 0, 0, 0}, [][]int{short, good, nil, good}, api.ErrFit},
		{"how many ahead of what is shown", []int{0, 0, 0, 0}, [][]int{short, good, nil, good}, api.ErrFit},
		{"the masked number ahead of the next one's list", []int{9, 0, 0, 0}, [][]int{good, short, nil, good}, api.ErrRange},
		{"what is shown ahead of the next one's list", []int{0, 0, 0, 0}, [][]int{high, short, nil, good}, api.ErrRange},
		{"the list ahead of the next one's masked number", []int{0, 9, 0, 0}, [][]int{short, good, nil, good}, api.ErrFit},
		{"the list ahead of what the next one shows", []int{0, 0, 0, 0}, [][]int{short, high, nil, good}, api.ErrFit},
		{"what is shown ahead of the last one's list", []int{0, 0, 0, 0}, [][]int{good, high, nil, short}, api.ErrRange},
		{"the last one's list", []int{0, 0, 9, 0}, [][]int{good, good, short, short}, api.ErrFit},
		{"who is not there", []int{0, 0, 9, 0}, [][]int{good, good, short, good}, api.OK},
	} {
		if got, err := mask.Sum(7, x.masked, there, x.shown); got != 0 || err != x.want {
			t.Errorf("%s: %d, %d, not 0, %d", x.name, got, err, x.want)
		}
	}
}

// slowSum says what V3 says by numbers without bounds, of what nothing is wrong with.
func slowSum(modulus int, masked []int, there []bool, shown [][]int) int {
	x := new(big.Int)
	for me := range masked {
		if !there[me] {
			continue
		}
		x.Add(x, big.NewInt(int64(masked[me])))
		for other := range masked {
			switch {
			case there[other]:
			case other > me:
				x.Sub(x, big.NewInt(int64(shown[me][other])))
			default:
				x.Add(x, big.NewInt(int64(shown[me][other])))
			}
		}
	}
	return mod(x, modulus)
}

// TestV3Sweep: whatever is masked and shown, though no two share what they say.
func TestV3Sweep(t *testing.T) {
	any := rand.New(rand.NewSource(13))
	for range 5000 {
		m := moduli()[any.Intn(len(moduli()))]
		team := 1 + any.Intn(api.MaxTeam)
		there := set(team, any.Intn(1<<team))
		shown := make([][]int, team)
		for i := range shown {
			shown[i] = anyNumbers(any, team, m)
		}
		masked := anyNumbers(any, team, m)
		holdSum(t, m, masked, there, shown, slowSum(m, masked, there, shown), api.OK)
	}
}

// anyTeam is what each two of some members share.
func anyTeam(any *rand.Rand, team, modulus int) [][]int {
	s := make([][]int, team)
	for i := range s {
		s[i] = anyNumbers(any, team, modulus)
		for k := range i {
			s[i][k] = s[k][i]
		}
	}
	return s
}

// TestV2V3AddUp: masked, each by itself, the numbers of those who are there add up, whoever is not there, and though no more is shown than is needed.
func TestV2V3AddUp(t *testing.T) {
	any := rand.New(rand.NewSource(14))
	for range 400 {
		m := moduli()[any.Intn(len(moduli()))]
		team := 1 + any.Intn(api.MaxTeam)
		s, numbers := anyTeam(any, team, m), anyNumbers(any, team, m)
		masked := make([]int, team)
		for me := range team {
			masked[me], _ = mask.Mask(m, me, numbers[me], s[me])
		}
		for _, bits := range []int{0, 1<<team - 1, 1 << any.Intn(team), any.Intn(1 << team), any.Intn(1 << team)} {
			there := set(team, bits)
			sum, heard, shown := new(big.Int), slices.Clone(masked), make([][]int, team)
			for me := range team {
				if !there[me] {
					heard[me] = -1
					continue
				}
				sum.Add(sum, big.NewInt(int64(numbers[me])))
				shown[me] = slices.Clone(s[me])
				for other := range team {
					if there[other] {
						shown[me][other] = -1
					}
				}
			}
			holdSum(t, m, heard, there, shown, mod(sum, m), api.OK)
		}
	}
}
