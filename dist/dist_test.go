package dist_test

import (
	"fmt"
	"math"
	"slices"
	"testing"

	"hushhouse/api"
	"hushhouse/dist"
)

// p is a part: its weight, then its outcome.
func p(weight int, out ...int) api.Part { return api.Part{Out: out, Weight: weight} }

// made is a distribution that must be one.
func made(t *testing.T, parts ...api.Part) api.Dist {
	t.Helper()
	d, err := dist.Make(parts)
	if err != api.OK {
		t.Fatalf("Make tells %d of %v", err, parts)
	}
	return d
}

// evens has the outcomes from one number on, one number each, all as likely as each other.
func evens(from, many int) api.Dist {
	var d api.Dist
	for i := range many {
		d = append(d, p(1, from+i))
	}
	return d
}

func alike(a, b api.Dist) bool {
	return slices.EqualFunc(a, b, func(x, y api.Part) bool {
		return x.Weight == y.Weight && slices.Equal(x.Out, y.Out)
	})
}

// told holds an answer that is a distribution, and an errno, against what must come.
func told(t *testing.T, name string, got api.Dist, err api.Errno, want api.Dist, wantErr api.Errno) {
	t.Helper()
	if err != wantErr || !alike(got, want) {
		t.Errorf("%s: %.200s, %d comes, not %.200s, %d", name, fmt.Sprint(got), err, fmt.Sprint(want), wantErr)
	}
}

type makeCase struct {
	name  string
	parts []api.Part
	want  api.Dist
	err   api.Errno
}

func testMake(t *testing.T, cases []makeCase) {
	t.Helper()
	for _, c := range cases {
		got, err := dist.Make(c.parts)
		told(t, c.name, got, err, c.want, c.err)
	}
}

func wide(n, number int) []int { return slices.Repeat([]int{number}, n) }

func TestMakeOutcomes(t *testing.T) {
	full, least, most := wide(api.MaxWide, 3), p(1, -api.MaxNum), p(1, api.MaxNum)
	testMake(t, []makeCase{
		{"without numbers", []api.Part{p(5)}, api.Dist{p(1)}, api.OK},
		{"nil is without numbers", []api.Part{{Out: nil, Weight: 1}, {Out: []int{}, Weight: 1}}, api.Dist{p(1)}, api.OK},
		{"MaxWide numbers", []api.Part{p(1, full...)}, api.Dist{p(1, full...)}, api.OK},
		{"one more", []api.Part{p(1, wide(api.MaxWide+1, 3)...)}, nil, api.ErrRange},
		{"the least and the greatest", []api.Part{most, least}, api.Dist{least, most}, api.OK},
		{"below the least", []api.Part{p(1, -api.MaxNum-1)}, nil, api.ErrRange},
		{"above the greatest", []api.Part{p(1, api.MaxNum+1)}, nil, api.ErrRange},
		{"the last of several numbers", []api.Part{p(1, 0, 0, api.MaxNum+1)}, nil, api.ErrRange},
		{"the last of several outcomes", []api.Part{p(1, 0), p(1, 1), p(1, -api.MaxNum-1)}, nil, api.ErrRange},
		{"the least word", []api.Part{p(1, math.MinInt)}, nil, api.ErrRange},
		{"the greatest word", []api.Part{p(1, math.MaxInt)}, nil, api.ErrRange},
		{"no outcome without weight", []api.Part{p(1, 1), p(0, api.MaxNum+1)}, nil, api.ErrRange},
		{"the order of lists",
			[]api.Part{p(1, 1), p(1, 0, 1), p(1, 0, -1, 5), p(1, 0), p(1), p(1, -1, 7), p(1, -1), p(1, 0, 0)},
			api.Dist{p(1), p(1, -1), p(1, -1, 7), p(1, 0), p(1, 0, -1, 5), p(1, 0, 0), p(1, 0, 1), p(1, 1)}, api.OK},
	})
}

func TestMakeWeights(t *testing.T) {
	const m = api.MaxPart
	testMake(t, []makeCase{
		{"alike is added", []api.Part{p(2, 1), p(4, 0), p(3, 1)}, api.Dist{p(4, 0), p(5, 1)}, api.OK},
		{"added, then divided", []api.Part{p(1, 0), p(1, 1), p(1, 0), p(1, 1)}, api.Dist{p(1, 0), p(1, 1)}, api.OK},
		{"without weight is left out", []api.Part{p(0, 0), p(3, 1), p(0, 2)}, api.Dist{p(1, 1)}, api.OK},
		{"without weight beside what is alike", []api.Part{p(0, 1), p(3, 1), p(0, 1), p(2, 2)}, api.Dist{p(3, 1), p(2, 2)}, api.OK},
		{"divided by 6", []api.Part{p(12, 0), p(18, 1), p(30, 2)}, api.Dist{p(2, 0), p(3, 1), p(5, 2)}, api.OK},
		{"two have a divisor, three have none", []api.Part{p(6, 0), p(10, 1), p(15, 2)}, api.Dist{p(6, 0), p(10, 1), p(15, 2)}, api.OK},
		{"nil", nil, nil, api.ErrNone},
		{"empty", []api.Part{}, nil, api.ErrNone},
		{"nothing has weight", []api.Part{p(0, 1), p(0, 2)}, nil, api.ErrNone},
		{"below 0", []api.Part{p(3, 1), p(-1, 1)}, nil, api.ErrRange},
		{"the least word", []api.Part{p(math.MinInt, 1)}, nil, api.ErrRange},
		{"MaxPart", []api.Part{p(m, 1)}, api.Dist{p(1, 1)}, api.OK},
		{"above MaxPart", []api.Part{p(m+1, 1)}, nil, api.ErrRange},
		{"the greatest word", []api.Part{p(math.MaxInt, 1)}, nil, api.ErrRange},
		{"the total is MaxPart", []api.Part{p(m-1, 1), p(1, 2)}, api.Dist{p(m-1, 1), p(1, 2)}, api.OK},
		{"the total is one more", []api.Part{p(m, 1), p(1, 2)}, nil, api.ErrMuch},
		{"too much until it is divided", []api.Part{p(m, 1), p(m/2, 2)}, api.Dist{p(2, 1), p(1, 2)}, api.OK},
		{"MaxPart when it is divided", []api.Part{p(m, 1), p(m-2, 1), p(2, 2)}, api.Dist{p(m-1, 1), p(1, 2)}, api.OK},
		{"one more when it is divided", []api.Part{p(m, 1), p(m, 1), p(2, 2)}, nil, api.ErrMuch},
		{"much of one is still certain", []api.Part{p(m, 1), p(m, 1), p(m-1, 1)}, api.Dist{p(1, 1)}, api.OK},
		{"ErrRange ahead of ErrNone", []api.Part{p(0, 1), p(0, api.MaxNum+1)}, nil, api.ErrRange},
		{"ErrRange ahead of ErrMuch", []api.Part{p(m, 1), p(1, 2), p(-1, 3)}, nil, api.ErrRange},
	})
}

func TestMakeMany(t *testing.T) {
	all, more := evens(0, api.MaxOuts), evens(0, api.MaxOuts+1)
	bare := slices.Clone(more)
	bare[7].Weight = 0
	left := slices.Delete(slices.Clone(more), 7, 8)
	bad := append(slices.Clone(more), p(1, api.MaxNum+1))
	testMake(t, []makeCase{
		{"MaxOuts", all, all, api.OK},
		{"one more", more, nil, api.ErrMuch},
		{"one more without weight", bare, left, api.OK},
		{"twice each", append(slices.Clone(all), all...), all, api.OK},
		{"ErrRange ahead of too many", bad, nil, api.ErrRange},
	})
}

func TestWrong(t *testing.T) {
	const m = api.MaxPart
	for _, c := range []struct {
		name string
		d    api.Dist
		want api.Errno
	}{
		{"right", api.Dist{p(1), p(2, -3), p(3, -3, 0), p(1, 7)}, api.OK},
		{"certain", api.Dist{p(1, 4)}, api.OK},
		{"nil without numbers", api.Dist{{Out: nil, Weight: 1}, p(1, 0)}, api.OK},
		{"empty without numbers", api.Dist{{Out: []int{}, Weight: 1}, p(1, 0)}, api.OK},
		{"MaxOuts", evens(0, api.MaxOuts), api.OK},
		{"the total is MaxPart", api.Dist{p(1, 0), p(m-1, 1)}, api.OK},
		{"no outcome", api.Dist{p(1, api.MaxNum+1)}, api.ErrRange},
		{"too wide", api.Dist{p(1, wide(api.MaxWide+1, 0)...)}, api.ErrRange},
		{"below 0", api.Dist{p(-1, 0), p(1, 1)}, api.ErrRange},
		{"nil", nil, api.ErrNone},
		{"empty", api.Dist{}, api.ErrNone},
		{"nothing has weight", api.Dist{p(0, 0)}, api.ErrNone},
		{"too much", api.Dist{p(1, 0), p(m, 1)}, api.ErrMuch},
		{"too many", evens(0, api.MaxOuts+1), api.ErrMuch},
		{"falling", api.Dist{p(1, 1), p(1, 0)}, api.ErrForm},
		{"a longer one ahead", api.Dist{p(1, 1, 1), p(1, 1)}, api.ErrForm},
		{"twice", api.Dist{p(1, 0), p(1, 1), p(1, 1)}, api.ErrForm},
		{"twice, to be added", api.Dist{p(1, 1), p(1, 1)}, api.ErrForm},
		{"without weight", api.Dist{p(1, 0), p(0, 1)}, api.ErrForm},
		{"with a divisor", api.Dist{p(2, 0), p(4, 1)}, api.ErrForm},
		{"certain with a divisor", api.Dist{p(2, 0)}, api.ErrForm},
		{"ErrRange ahead of ErrForm", api.Dist{p(1, 1), p(1, 0), p(m+1, 2)}, api.ErrRange},
		{"ErrMuch ahead of ErrForm", api.Dist{p(m, 1), p(1, 0)}, api.ErrMuch},
		{"ErrNone ahead of ErrForm", api.Dist{p(0, 1), p(0, 0)}, api.ErrNone},
	} {
		if got := dist.Wrong(c.d); got != c.want {
			t.Errorf("%s: Wrong tells %d, not %d", c.name, got, c.want)
		}
	}
}

func TestSure(t *testing.T) {
	for _, c := range []struct {
		name string
		out  []int
		want api.Dist
		err  api.Errno
	}{
		{"two numbers", []int{4, 5}, api.Dist{p(1, 4, 5)}, api.OK},
		{"nil", nil, api.Dist{p(1)}, api.OK},
		{"empty", []int{}, api.Dist{p(1)}, api.OK},
		{"MaxWide", wide(api.MaxWide, -api.MaxNum), api.Dist{p(1, wide(api.MaxWide, -api.MaxNum)...)}, api.OK},
		{"one more", wide(api.MaxWide+1, 0), nil, api.ErrRange},
		{"too large", []int{api.MaxNum + 1}, nil, api.ErrRange},
		{"too small", []int{0, -api.MaxNum - 1}, nil, api.ErrRange},
	} {
		got, err := dist.Sure(c.out)
		told(t, c.name, got, err, c.want, c.err)
	}
}

func TestChance(t *testing.T) {
	d := api.Dist{p(1), p(2, 0), p(3, 0, 1), p(6, 5)}
	top := api.Dist{p(1, 0), p(api.MaxPart-1, 1)}
	for _, c := range []struct {
		name string
		d    api.Dist
		out  []int
		want api.Ratio
	}{
		{"nil", d, nil, api.Ratio{Up: 1, Down: 12}},
		{"empty", d, []int{}, api.Ratio{Up: 1, Down: 12}},
		{"in lowest terms", d, []int{0}, api.Ratio{Up: 1, Down: 6}},
		{"two numbers", d, []int{0, 1}, api.Ratio{Up: 1, Down: 4}},
		{"the last one", d, []int{5}, api.Ratio{Up: 1, Down: 2}},
		{"none of them", d, []int{1}, api.Ratio{Up: 0, Down: 1}},
		{"below all but one", d, []int{-1}, api.Ratio{Up: 0, Down: 1}},
		{"above all", d, []int{6}, api.Ratio{Up: 0, Down: 1}},
		{"the beginning of one", d, []int{0, 1, 0}, api.Ratio{Up: 0, Down: 1}},
		{"no outcome", d, []int{math.MaxInt}, api.Ratio{Up: 0, Down: 1}},
		{"too wide", d, wide(api.MaxWide+1, 0), api.Ratio{Up: 0, Down: 1}},
		{"certain", api.Dist{p(1, 7)}, []int{7}, api.Ratio{Up: 1, Down: 1}},
		{"the least chance", top, []int{0}, api.Ratio{Up: 1, Down: api.MaxPart}},
		{"the greatest below 1", top, []int{1}, api.Ratio{Up: api.MaxPart - 1, Down: api.MaxPart}},
	} {
		if got, err := dist.Chance(c.d, c.out); got != c.want || err != api.OK {
			t.Errorf("%s: %v, %d comes, not %v", c.name, got, err, c.want)
		}
	}
}

func TestMean(t *testing.T) {
	const m, n = api.MaxPart, api.MaxNum
	d := api.Dist{p(1, -4, 3), p(1, 0, -3), p(2, 1, 0, 9)}
	for _, c := range []struct {
		name     string
		d        api.Dist
		place    int
		up, down int
		err      api.Errno
	}{
		{"below 0", d, 0, -1, 2, api.OK},
		{"0", d, 1, 0, 1, api.OK},
		{"not every outcome has it", d, 2, 0, 0, api.ErrNone},
		{"no outcome has it", d, 3, 0, 0, api.ErrNone},
		{"a place below 0", d, -1, 0, 0, api.ErrNone},
		{"the least place", d, math.MinInt, 0, 0, api.ErrNone},
		{"the greatest place", d, math.MaxInt, 0, 0, api.ErrNone},
		{"without numbers", api.Dist{p(1), p(1, 5)}, 0, 0, 0, api.ErrNone},
		{"in lowest terms", api.Dist{p(1, 0), p(3, 2)}, 0, 3, 2, api.OK},
		{"whole", api.Dist{p(1, 2), p(1, 4)}, 0, 3, 1, api.OK},
		{"certain", api.Dist{p(1, 8, -9)}, 1, -9, 1, api.OK},
		{"the last of MaxWide", api.Dist{p(1, wide(api.MaxWide, 6)...)}, api.MaxWide - 1, 6, 1, api.OK},
		{"behind MaxWide", api.Dist{p(1, wide(api.MaxWide, 6)...)}, api.MaxWide, 0, 0, api.ErrNone},
		{"parts beyond MaxPart", api.Dist{p(1, n-1), p(m-1, n)}, 0, n*m - 1, m, api.OK},
		{"parts beyond MaxPart, below 0", api.Dist{p(m-1, -n), p(1, 1-n)}, 0, 1 - n*m, m, api.OK},
	} {
		up, down, err := dist.Mean(c.d, c.place)
		if up != c.up || down != c.down || err != c.err {
			t.Errorf("%s: %d / %d, %d comes, not %d / %d, %d", c.name, up, down, err, c.up, c.down, c.err)
		}
	}
}

// wrongs has a distribution for each errno that Wrong may tell.
func wrongs() map[api.Errno]api.Dist {
	return map[api.Errno]api.Dist{
		api.ErrRange: {p(1, api.MaxNum+1)},
		api.ErrNone:  {},
		api.ErrMuch:  {p(api.MaxPart, 0), p(1, 1)},
		api.ErrForm:  {p(1, 1), p(1, 0)},
	}
}

func TestOthersTellWhatIsWrong(t *testing.T) {
	for want, d := range wrongs() {
		c, err := dist.Chance(d, nil)
		if err != want || c != (api.Ratio{}) {
			t.Errorf("Chance: %v, %d comes, not %d", c, err, want)
		}
		// The place is one that no outcome has: what is wrong with d is told ahead of that.
		up, down, err := dist.Mean(d, -1)
		if err != want || up != 0 || down != 0 {
			t.Errorf("Mean: %d / %d, %d comes, not %d", up, down, err, want)
		}
		got, err := dist.Map(d, func([]int) []int { return nil })
		told(t, "Map", got, err, nil, want)
		got, err = dist.Keep(d, func([]int) bool { return true })
		told(t, "Keep", got, err, nil, want)
		got, err = dist.Bind(d, func([]int) (api.Dist, api.Errno) { return nil, api.ErrState })
		told(t, "Bind", got, err, nil, want)
	}
}

func TestOfTwoTheFirstIsToldAhead(t *testing.T) {
	right := api.Dist{p(1, 0), p(1, 1)}
	look := func(a, b api.Dist, want api.Errno) {
		t.Helper()
		got, err := dist.Both(a, b)
		told(t, "Both", got, err, nil, want)
		if r, err := dist.Far(a, b); err != want || r != (api.Ratio{}) {
			t.Errorf("Far: %v, %d comes, not %d", r, err, want)
		}
		if r, err := dist.Apart(a, b); err != want || r != (api.Ratio{}) {
			t.Errorf("Apart: %v, %d comes, not %d", r, err, want)
		}
	}
	for first, a := range wrongs() {
		look(a, right, first)
		look(right, a, first)
		for _, b := range wrongs() {
			look(a, b, first)
		}
	}
}

func TestNoFunction(t *testing.T) {
	all := wrongs()
	all[api.ErrNone] = api.Dist{p(1, 0)}
	for want, d := range all {
		got, err := dist.Map(d, nil)
		told(t, "Map", got, err, nil, want)
		got, err = dist.Keep(d, nil)
		told(t, "Keep", got, err, nil, want)
		got, err = dist.Bind(d, nil)
		told(t, "Bind", got, err, nil, want)
	}
}
