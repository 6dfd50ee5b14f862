package dice_test

import (
	"reflect"
	"slices"
	"testing"

	"hushhouse/api"
	"hushhouse/dice"
)

// roomy lays parts with spare room behind the list and behind each outcome, so that what is written there is seen.
func roomy(parts ...api.Part) api.Dist {
	out := make(api.Dist, 0, len(parts)+2)
	for _, x := range append(slices.Clone(parts), p(91, 92), p(93, 94)) {
		room := append(slices.Clone(x.Out), 97, 98, 99)
		out = append(out, api.Part{Out: room[:len(x.Out)], Weight: x.Weight})
	}
	return out[:len(parts)]
}

// whole is a list with all its spare room, deeply copied.
func whole(d api.Dist) [][]int {
	var out [][]int
	for _, x := range d[:cap(d)] {
		out = append(out, append([]int{x.Weight, len(x.Out)}, x.Out[:cap(x.Out)]...))
	}
	return out
}

// spoil writes over all that draws have, their spare room too, and tells whether one list was to be seen in another.
func spoil(list []api.Draw) (shared bool) {
	every := list[:cap(list)]
	for i := range every {
		x := every[i].Out[:cap(every[i].Out)]
		for j := range x {
			shared = shared || x[j] == 1<<40
			x[j] = 1 << 40
		}
	}
	clear(every)
	return shared
}

// ruin writes over all that a distribution has, its spare room too.
func ruin(d api.Dist) {
	every := d[:cap(d)]
	for i := range every {
		x := every[i].Out[:cap(every[i].Out)]
		for j := range x {
			x[j] = -77
		}
	}
	clear(every)
}

func TestMemory(t *testing.T) {
	d := roomy(p(1), p(3, 4, 5, 6), p(1, 7))
	sureOne := roomy(p(1, 8, 9))
	room := append(mixed(5, 60), 2, 3, 4)
	bits := room[:60]
	for name, ask := range map[string]func() ([]api.Draw, api.Errno){
		"Rolls":        func() ([]api.Draw, api.Errno) { return dice.Rolls(d, bits, 20) },
		"Rolls of one": func() ([]api.Draw, api.Errno) { return dice.Rolls(sureOne, bits, 20) },
		"Evens":        func() ([]api.Draw, api.Errno) { return dice.Evens(6, bits, 15) },
		"Evens of 1":   func() ([]api.Draw, api.Errno) { return dice.Evens(1, bits, 15) },
		"Evens of 2":   func() ([]api.Draw, api.Errno) { return dice.Evens(2, bits, 15) },
	} {
		before := [][][]int{whole(d), whole(sureOne), {slices.Clone(room)}}
		got, err := ask()
		if err != api.OK || len(got) < 5 {
			t.Fatalf("%s tells %d draws, %d", name, len(got), err)
		}
		var keep []api.Draw
		for _, x := range got {
			keep = append(keep, api.Draw{Out: slices.Clone(x.Out), Bits: x.Bits})
		}
		if spoil(got) {
			t.Errorf("%s: two lists of what comes share memory", name)
		}
		if after := [][][]int{whole(d), whole(sureOne), {slices.Clone(room)}}; !reflect.DeepEqual(before, after) {
			t.Errorf("%s: what was handed in is changed", name)
		}
		again, err := ask()
		told(t, name+" again", again, err, keep, api.OK)
	}
}

func TestOnlyReadWhenWrong(t *testing.T) {
	room := []int{0, 1, 2, 5, 6}
	wrong := roomy(p(2, 1), p(4, 0), p(0, 3), p(6, 1))
	right := roomy(p(1, 1), p(1, 2))
	before := [][][]int{whole(wrong), whole(right), {slices.Clone(room)}}
	dice.Rolls(wrong, room[:3], 2)
	dice.Rolls(right, room[:3], 2)
	dice.Rolls(right, room[:2], -2)
	dice.Evens(3, room[:3], 2)
	dice.New(wrong)
	if after := [][][]int{whole(wrong), whole(right), {slices.Clone(room)}}; !reflect.DeepEqual(before, after) {
		t.Errorf("what was handed in is changed: %v, was %v", after, before)
	}
}

// TestRollerKeepsNothing: neither what a roller was handed nor what it told is its own.
func TestRollerKeepsNothing(t *testing.T) {
	d := roomy(p(1, 10), p(3, 20, 21), p(1, 30))
	r := roller(t, d)
	if !reflect.DeepEqual(whole(d), whole(roomy(p(1, 10), p(3, 20, 21), p(1, 30)))) {
		t.Errorf("New changes what it is handed: %v", whole(d))
	}
	ruin(d)
	for range 3 {
		got, ok := r.Feed(0)
		if !ok || !same(got, x(1, 20, 21)) {
			t.Errorf("%v, %v comes", got, ok)
		}
		spoil([]api.Draw{got})
	}
	one := roomy(p(1, 8, 9))
	s := roller(t, one)
	ruin(one)
	for range 3 {
		got, ok := s.Sure()
		if !ok || !same(got, x(0, 8, 9)) {
			t.Errorf("%v, %v comes", got, ok)
		}
		spoil([]api.Draw{got})
	}
}

func TestNilAndEmptyAreTheSame(t *testing.T) {
	for _, out := range [][]int{nil, {}} {
		d := api.Dist{{Out: out, Weight: 1}, p(1, 0)}
		got, err := dice.Rolls(d, b("01"), 9)
		told(t, "Rolls", got, err, []api.Draw{x(1), x(1, 0)}, api.OK)
		fed(t, roller(t, d), 0, x(1))
	}
	for _, d := range []api.Dist{nil, {}} {
		for _, bits := range [][]int{nil, {}} {
			got, err := dice.Rolls(d, bits, 1)
			told(t, "Rolls of none", got, err, nil, api.ErrNone)
		}
	}
}
