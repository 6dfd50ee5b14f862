package dist_test

import (
	"math"
	"slices"
	"testing"

	"hushhouse/api"
	"hushhouse/dist"
)

func TestMap(t *testing.T) {
	d := api.Dist{p(1, -1), p(2, 0), p(1, 1), p(2, 2)}
	for _, c := range []struct {
		name string
		f    func([]int) []int
		want api.Dist
		err  api.Errno
	}{
		{"as it was", func(x []int) []int { return x }, d, api.OK},
		{"turned round", func(x []int) []int { return []int{-x[0]} }, api.Dist{p(2, -2), p(1, -1), p(2, 0), p(1, 1)}, api.OK},
		{"what becomes alike is added", func(x []int) []int { return []int{x[0] & 1} }, api.Dist{p(2, 0), p(1, 1)}, api.OK},
		{"all alike", func([]int) []int { return nil }, api.Dist{p(1)}, api.OK},
		{"wider", func(x []int) []int { return []int{x[0] / 2, 7} }, api.Dist{p(2, 0, 7), p(1, 1, 7)}, api.OK},
		{"too wide", func([]int) []int { return wide(api.MaxWide+1, 0) }, nil, api.ErrRange},
		{"the last one too large", func(x []int) []int { return []int{x[0] + api.MaxNum - 1} }, nil, api.ErrRange},
		{"the least word", func([]int) []int { return []int{math.MinInt} }, nil, api.ErrRange},
	} {
		got, err := dist.Map(d, c.f)
		told(t, c.name, got, err, c.want, c.err)
	}
}

func TestKeep(t *testing.T) {
	d := api.Dist{p(3), p(2, -1), p(4, 0), p(6, 0, 5)}
	for _, c := range []struct {
		name string
		pass func([]int) bool
		want api.Dist
		err  api.Errno
	}{
		{"all", func([]int) bool { return true }, d, api.OK},
		{"none", func([]int) bool { return false }, nil, api.ErrNone},
		{"with a number", func(x []int) bool { return len(x) > 0 }, api.Dist{p(1, -1), p(2, 0), p(3, 0, 5)}, api.OK},
		{"the first one", func(x []int) bool { return len(x) == 0 }, api.Dist{p(1)}, api.OK},
		{"the last one", func(x []int) bool { return len(x) == 2 }, api.Dist{p(1, 0, 5)}, api.OK},
		{"two that stand apart", func(x []int) bool { return len(x) != 1 }, api.Dist{p(1), p(2, 0, 5)}, api.OK},
	} {
		got, err := dist.Keep(d, c.pass)
		told(t, c.name, got, err, c.want, c.err)
	}
}

// follow tells the i-th distribution behind the outcome of one number i.
func follow(l ...api.Dist) func([]int) (api.Dist, api.Errno) {
	return func(x []int) (api.Dist, api.Errno) { return l[x[0]], api.OK }
}

func TestBind(t *testing.T) {
	two := api.Dist{p(1, 0), p(3, 1)}
	long := api.Dist{p(1), p(1, 5), p(1, 5, 5)}
	for _, c := range []struct {
		name string
		d    api.Dist
		f    func([]int) (api.Dist, api.Errno)
		want api.Dist
	}{
		{"behind what is certain", api.Dist{p(1, 0)}, follow(two), two},
		{"what is certain behind", two, follow(api.Dist{p(1, 4)}, api.Dist{p(1, 3)}), api.Dist{p(3, 3), p(1, 4)}},
		{"the same behind each", two, follow(long, long), long},
		{"totals that have a divisor together", two, follow(api.Dist{p(1, 0), p(3, 1)}, api.Dist{p(1, 1), p(5, 2)}), api.Dist{p(1, 0), p(5, 1), p(10, 2)}},
		{"totals that have none", two, follow(api.Dist{p(1, 0), p(1, 5)}, api.Dist{p(1, 0), p(2, 5)}), api.Dist{p(3, 0), p(5, 5)}},
		{"the first total is the greater", api.Dist{p(1, 0), p(1, 1)}, follow(api.Dist{p(1, 0), p(5, 5)}, api.Dist{p(1, 0), p(1, 5)}), api.Dist{p(1, 0), p(2, 5)}},
		{"divided in the end", api.Dist{p(1, 0), p(1, 1)}, follow(api.Dist{p(1, 0), p(3, 5)}, api.Dist{p(3, 0), p(1, 5)}), api.Dist{p(1, 0), p(1, 5)}},
		{"wider, shorter", two, follow(long, api.Dist{p(2, -1, 7), p(1, 5)}), api.Dist{p(1), p(6, -1, 7), p(4, 5), p(1, 5, 5)}},
	} {
		got, err := dist.Bind(c.d, c.f)
		told(t, c.name, got, err, c.want, api.OK)
	}
}

func TestBindMuch(t *testing.T) {
	const m = api.MaxPart
	sure := api.Dist{p(1, 9)}
	of := func(all int) api.Dist { return api.Dist{p(1, 0), p(all-1, 1)} }
	two := api.Dist{p(1, 0), p(1, 1)}
	three := api.Dist{p(1, 0), p(1, 1), p(1, 2)}
	fails := func(l ...api.Dist) func([]int) (api.Dist, api.Errno) {
		return func(x []int) (api.Dist, api.Errno) {
			if x[0] == len(l) {
				return sure, api.ErrState
			}
			return l[x[0]], api.OK
		}
	}
	for _, c := range []struct {
		name string
		d    api.Dist
		f    func([]int) (api.Dist, api.Errno)
		want api.Dist
		err  api.Errno
	}{
		{"the error that f tells", two, fails(), nil, api.ErrState},
		{"the error that f tells last", two, fails(sure), nil, api.ErrState},
		{"what is wrong ahead of a later error", two, fails(api.Dist{p(2, 0)}), nil, api.ErrForm},
		{"an error ahead of what is wrong later", two, func(x []int) (api.Dist, api.Errno) { return nil, api.Errno(x[0]*8 + 1) }, nil, api.ErrKind},
		{"no outcome behind", two, follow(sure, api.Dist{p(1, m+1)}), nil, api.ErrRange},
		{"nothing behind", two, follow(sure, nil), nil, api.ErrNone},
		{"too much behind", two, follow(sure, api.Dist{p(m, 0), p(1, 1)}), nil, api.ErrMuch},
		{"falling behind", two, follow(sure, api.Dist{p(1, 1), p(1, 0)}), nil, api.ErrForm},
		{"totals too large ahead of a later error", three, fails(of(1<<16), of(1<<16+1)), nil, api.ErrMuch},
		{"totals just not too large, then an error", three, fails(of(1<<15), of(1<<15-1)), nil, api.ErrState},
		{"all of MaxPart behind, then an error", three, fails(of(m), of(m)), nil, api.ErrState},
		{"MaxPart with the total ahead", two, follow(of(m/2), of(m/2)), of(m / 2), api.OK},
		{"above MaxPart with the total ahead", two, follow(of(m), of(m)), nil, api.ErrMuch},
		{"MaxPart ahead", of(m), follow(sure, sure), sure, api.OK},
		{"too much, though it would divide", of(m), follow(two, two), nil, api.ErrMuch},
		{"other totals, MaxPart with the total ahead", two, follow(of(1<<14), of(1<<29)), api.Dist{p(1<<15+1, 0), p(1<<30-1<<15-1, 1)}, api.OK},
	} {
		got, err := dist.Bind(c.d, c.f)
		told(t, c.name, got, err, c.want, c.err)
	}
}

func TestBindMany(t *testing.T) {
	parts := func(x []int) (api.Dist, api.Errno) { return evens(x[0]*64, 64), api.OK }
	got, err := dist.Bind(evens(0, 64), parts)
	told(t, "MaxOuts", got, err, evens(0, api.MaxOuts), api.OK)
	got, err = dist.Bind(evens(0, 65), parts)
	told(t, "more", got, err, nil, api.ErrMuch)
	got, err = dist.Bind(evens(0, 65), func(x []int) (api.Dist, api.Errno) { return parts([]int{min(x[0], 63)}) })
	last := evens(0, api.MaxOuts)
	for i := api.MaxOuts - 64; i < api.MaxOuts; i++ {
		last[i].Weight = 2
	}
	told(t, "MaxOuts of more pairs", got, err, last, api.OK)
	got, err = dist.Bind(evens(0, 100), func(x []int) (api.Dist, api.Errno) {
		if x[0] == 99 {
			return nil, api.ErrPower
		}
		return parts(x)
	})
	told(t, "an error behind too many", got, err, nil, api.ErrPower)
	got, err = dist.Bind(evens(0, api.MaxOuts), func([]int) (api.Dist, api.Errno) { return evens(0, 3), api.OK })
	told(t, "few behind many", got, err, evens(0, 3), api.OK)
}

func TestBoth(t *testing.T) {
	const m = api.MaxPart
	two := api.Dist{p(1, 0), p(3, 1)}
	some := api.Dist{p(1), p(1, 1)}
	wideOne, wideTwo := wide(api.MaxWide-1, 2), wide(api.MaxWide, 2)
	for _, c := range []struct {
		name string
		a, b api.Dist
		want api.Dist
		err  api.Errno
	}{
		{"each with each", two, api.Dist{p(2, 5), p(3, 6, 7)},
			api.Dist{p(2, 0, 5), p(3, 0, 6, 7), p(6, 1, 5), p(9, 1, 6, 7)}, api.OK},
		{"nothing behind", two, api.Dist{p(1)}, two, api.OK},
		{"nothing ahead", api.Dist{p(1)}, two, two, api.OK},
		{"alike in two ways", some, some, api.Dist{p(1), p(2, 1), p(1, 1, 1)}, api.OK},
		{"not in the order of pairs", api.Dist{p(1), p(1, 0)}, api.Dist{p(1), p(2, 0, 0), p(3, 1)},
			api.Dist{p(1), p(1, 0), p(2, 0, 0), p(2, 0, 0, 0), p(3, 0, 1), p(3, 1)}, api.OK},
		{"MaxWide", api.Dist{p(1, 7)}, api.Dist{p(1, wideOne...)}, api.Dist{p(1, append([]int{7}, wideOne...)...)}, api.OK},
		{"too wide", api.Dist{p(1, 7)}, api.Dist{p(1, wideTwo...)}, nil, api.ErrRange},
		{"too wide at last", api.Dist{p(1), p(1, 7)}, api.Dist{p(1, 0), p(1, wideTwo...)}, nil, api.ErrRange},
		{"MaxPart", api.Dist{p(1, 0), p(1<<15-1, 1)}, api.Dist{p(1, 0), p(1<<15-1, 1)},
			api.Dist{p(1, 0, 0), p(1<<15-1, 0, 1), p(1<<15-1, 1, 0), p((1<<15-1)*(1<<15-1), 1, 1)}, api.OK},
		{"above MaxPart", api.Dist{p(1, 0), p(1<<15-1, 1)}, api.Dist{p(1, 0), p(1<<15, 1)}, nil, api.ErrMuch},
		{"much above MaxPart", api.Dist{p(1, 0), p(m-1, 1)}, api.Dist{p(1, 0), p(m-1, 1)}, nil, api.ErrMuch},
		{"ErrRange ahead of ErrMuch", api.Dist{p(1, 0), p(m-1, 1)}, api.Dist{p(1, 0), p(m-1, wideTwo...)}, nil, api.ErrRange},
		{"more than MaxOuts", evens(0, 65), evens(0, 64), nil, api.ErrMuch},
		{"ErrRange ahead of too many", evens(0, 65), append(evens(0, 64), p(1, wide(api.MaxWide, 64)...)), nil, api.ErrRange},
	} {
		got, err := dist.Both(c.a, c.b)
		told(t, c.name, got, err, c.want, c.err)
	}
	var square api.Dist
	for i := range 64 * 64 {
		square = append(square, p(1, i/64, i%64))
	}
	got, err := dist.Both(evens(0, 64), evens(0, 64))
	told(t, "MaxOuts", got, err, square, api.OK)
}

func TestFunctionsMayChangeWhatTheyAreHanded(t *testing.T) {
	d := made(t, p(1, 1, 2), p(2, 3, 4), p(4, 5, 6))
	before := made(t, d...)
	spoil := func(x []int) []int {
		for i := range x {
			x[i] = 77
		}
		return append(x, 78)
	}
	var kept [][]int
	got, err := dist.Keep(d, func(x []int) bool {
		kept = append(kept, spoil(x))
		return x[0] == 77
	})
	told(t, "Keep", got, err, before, api.OK)
	got, err = dist.Map(d, func(x []int) []int {
		y := slices.Clone(x)
		kept = append(kept, spoil(x))
		return y
	})
	told(t, "Map", got, err, before, api.OK)
	got, err = dist.Bind(d, func(x []int) (api.Dist, api.Errno) {
		y := slices.Clone(x)
		kept = append(kept, spoil(x))
		return dist.Sure(y)
	})
	told(t, "Bind", got, err, before, api.OK)
	for _, x := range kept {
		spoil(x[:cap(x)])
	}
	told(t, "what came", got, err, before, api.OK)
	told(t, "what was handed in", d, api.OK, before, api.OK)
}

func TestFunctionsMayTellTheSameMemory(t *testing.T) {
	d := api.Dist{p(1, 1), p(2, 2), p(4, 3)}
	buf := []int{0, 0}
	got, err := dist.Map(d, func(x []int) []int {
		buf[0], buf[1] = -x[0], 9
		return buf
	})
	told(t, "Map", got, err, api.Dist{p(4, -3, 9), p(2, -2, 9), p(1, -1, 9)}, api.OK)
	then := api.Dist{{Out: []int{0}, Weight: 1}, {Out: []int{0}, Weight: 1}}
	got, err = dist.Bind(d, func(x []int) (api.Dist, api.Errno) {
		then[0].Out[0], then[1].Out[0] = x[0], x[0]+1
		return then, api.OK
	})
	want := api.Dist{p(1, 1), p(3, 2), p(6, 3), p(4, 4)}
	told(t, "Bind", got, err, want, api.OK)
	then[0].Out[0], then[1].Out[0] = 50, 60
	told(t, "what came", got, err, want, api.OK)
	told(t, "what f told", then, api.OK, api.Dist{p(1, 50), p(1, 60)}, api.OK)
}
