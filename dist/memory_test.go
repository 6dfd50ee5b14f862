package dist_test

import (
	"reflect"
	"slices"
	"testing"

	"hushhouse/api"
	"hushhouse/dist"
)

// roomy lays parts with spare room behind the list and behind each outcome, so that what is written there is seen.
func roomy(parts ...api.Part) []api.Part {
	out := make([]api.Part, 0, len(parts)+3)
	for _, x := range append(slices.Clone(parts), p(91, 92), p(93, 94), p(95, 96)) {
		room := append(slices.Clone(x.Out), 97, 98, 99)
		out = append(out, api.Part{Out: room[:len(x.Out)], Weight: x.Weight})
	}
	return out[:len(parts)]
}

// whole is a list with all its spare room, deeply copied.
func whole(parts []api.Part) [][]int {
	var out [][]int
	for _, x := range parts[:cap(parts)] {
		out = append(out, append([]int{x.Weight, len(x.Out)}, x.Out[:cap(x.Out)]...))
	}
	return out
}

// spoil writes over all that an answer has, its spare room too, and tells whether one list of it was to be seen in another.
func spoil(d api.Dist) (shared bool) {
	all := d[:cap(d)]
	for i := range all {
		x := all[i].Out[:cap(all[i].Out)]
		for j := range x {
			shared = shared || x[j] == 1<<40
			x[j] = 1 << 40
		}
	}
	clear(all)
	return shared
}

func TestMemory(t *testing.T) {
	raw := roomy(p(4, 5, 6), p(2, 1), p(6), p(2, 1), p(0, 3))
	a := api.Dist(roomy(p(1), p(2, 1), p(3, 1, 2)))
	b := api.Dist(roomy(p(1, 0), p(2, 3), p(4, 7, 7)))
	long := api.Dist(roomy(p(1, 1, 2, 3, 4, 5), p(1, 1, 2, 3, 4, 5, 6, 7)))
	then := api.Dist(roomy(p(1), p(1, 8)))
	back := roomy(p(1, 5, 6, 7))[0].Out
	for name, ask := range map[string]func() (api.Dist, api.Errno){
		"Make":      func() (api.Dist, api.Errno) { return dist.Make(raw) },
		"Make of a": func() (api.Dist, api.Errno) { return dist.Make(a) },
		"Sure":      func() (api.Dist, api.Errno) { return dist.Sure(back) },
		"Map":       func() (api.Dist, api.Errno) { return dist.Map(a, func(x []int) []int { return x }) },
		"Map to b":  func() (api.Dist, api.Errno) { return dist.Map(a, func(x []int) []int { return b[len(x)].Out }) },
		"Keep":      func() (api.Dist, api.Errno) { return dist.Keep(a, func(x []int) bool { return len(x) > 0 }) },
		"Bind": func() (api.Dist, api.Errno) {
			return dist.Bind(a, func([]int) (api.Dist, api.Errno) { return then, api.OK })
		},
		"Bind to one": func() (api.Dist, api.Errno) {
			return dist.Bind(a, func(x []int) (api.Dist, api.Errno) { return api.Dist{{Out: x, Weight: 1}}, api.OK })
		},
		"Both":            func() (api.Dist, api.Errno) { return dist.Both(a, b) },
		"Both of long":    func() (api.Dist, api.Errno) { return dist.Both(long, b) },
		"Both of one":     func() (api.Dist, api.Errno) { return dist.Both(a, a) },
		"Both behind one": func() (api.Dist, api.Errno) { return dist.Both(api.Dist{p(1)}, b) },
	} {
		before := [][][]int{whole(raw), whole(a), whole(b), whole(then), {slices.Clone(back[:cap(back)])}}
		got, err := ask()
		if err != api.OK {
			t.Fatalf("%s tells %d", name, err)
		}
		keep := made(t, got...)
		if spoil(got) {
			t.Errorf("%s: two lists of what comes share memory", name)
		}
		after := [][][]int{whole(raw), whole(a), whole(b), whole(then), {slices.Clone(back[:cap(back)])}}
		if !reflect.DeepEqual(before, after) {
			t.Errorf("%s: what was handed in is changed", name)
		}
		again, err := ask()
		told(t, name+" again", again, err, keep, api.OK)
	}
}

func TestOnlyRead(t *testing.T) {
	a := api.Dist(roomy(p(1), p(2, 1), p(3, 1, 2)))
	b := api.Dist(roomy(p(2), p(2, 1), p(1, 1, 2)))
	wrong := api.Dist(roomy(p(2, 1), p(4, 0), p(0, 3), p(6, 1)))
	before := [][][]int{whole(a), whole(b), whole(wrong)}
	for _, d := range []api.Dist{a, wrong} {
		dist.Wrong(d)
		dist.Chance(d, b[1].Out)
		dist.Mean(d, 0)
		dist.Far(d, b)
		dist.Apart(b, d)
		dist.Both(b, d)
		dist.Keep(d, func([]int) bool { return false })
		dist.Map(d, func([]int) []int { return wrong[0].Out })
		dist.Bind(a, func([]int) (api.Dist, api.Errno) { return d, api.OK })
	}
	if after := [][][]int{whole(a), whole(b), whole(wrong)}; !reflect.DeepEqual(before, after) {
		t.Errorf("what was handed in is changed: %v, was %v", after, before)
	}
}

func TestNilAndEmptyAreTheSame(t *testing.T) {
	none := api.Dist{{Out: nil, Weight: 1}, p(1, 0)}
	empty := api.Dist{{Out: []int{}, Weight: 1}, p(1, 0)}
	if r, err := dist.Far(none, empty); r != (api.Ratio{Up: 1, Down: 1}) || err != api.OK {
		t.Errorf("Far: %v, %d", r, err)
	}
	if r, err := dist.Apart(none, empty); r != (api.Ratio{Up: 0, Down: 1}) || err != api.OK {
		t.Errorf("Apart: %v, %d", r, err)
	}
	for _, out := range [][]int{nil, {}} {
		for _, d := range []api.Dist{none, empty} {
			if r, err := dist.Chance(d, out); r != (api.Ratio{Up: 1, Down: 2}) || err != api.OK {
				t.Errorf("Chance: %v, %d", r, err)
			}
		}
		got, err := dist.Map(empty, func([]int) []int { return out })
		told(t, "Map", got, err, api.Dist{p(1)}, api.OK)
	}
	for _, d := range []api.Dist{nil, {}} {
		got, err := dist.Bind(empty, func([]int) (api.Dist, api.Errno) { return d, api.OK })
		told(t, "Bind", got, err, nil, api.ErrNone)
	}
}
