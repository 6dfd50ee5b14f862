package crowd_test

import (
	"slices"
	"testing"

	"hushhouse/api"
	"hushhouse/crowd"
)

// roomy lays a list with spare room behind it, so that what is written there is seen.
func roomy(l ...int) []int {
	return append(append(make([]int, 0, len(l)+2), l...), 91, 92)[:len(l)]
}

// spoil writes over all of a list, its spare room too.
func spoil(l []int) {
	l = l[:cap(l)]
	for i := range l {
		l[i] = -12345
	}
}

func TestE2OnlyRead(t *testing.T) {
	for _, r := range []api.Ratio{f(2, 1), f(1, 1), f(2, 2), f(1, 2), f(1<<12, 1), f(most, 1)} {
		for _, list := range [][]int{roomy(), roomy(0), roomy(1, 0, 2), roomy(2, -1, 0), roomy(4, 4, 4, 8)} {
			was := slices.Clone(list[:cap(list)])
			crowd.Shuffled(r, 3, list)
			crowd.Guess(r, list)
			if !slices.Equal(list[:cap(list)], was) {
				t.Errorf("%v became %v", was, list[:cap(list)])
			}
		}
	}
}

// TestE2NewMemory writes over one list of an answer after the other: no other one changes, nor what was handed in, nor what is answered again.
func TestE2NewMemory(t *testing.T) {
	for _, truths := range [][]int{nil, {1}, {0, 1, 2}, {2, 2}} {
		want, _ := crowd.Shuffled(f(3, 2), 3, truths)
		got, _ := crowd.Shuffled(f(3, 2), 3, truths)
		for i, p := range got {
			spoil(p.Out)
			if !slices.EqualFunc(got[i+1:], want[i+1:], same) {
				t.Errorf("two outcomes share memory")
			}
		}
		all := got[:cap(got)]
		for i := range all {
			all[i] = api.Part{Weight: -1}
		}
		holdShuffled(t, f(3, 2), 3, truths, want, api.OK)
	}
	for _, heard := range [][]int{roomy(2, 1), roomy(7), roomy(0, 0, 0)} { // where nothing is divided, too
		was := slices.Clone(heard[:cap(heard)])
		up, down, _ := crowd.Guess(f(2, 1), heard)
		want := slices.Clone(up)
		spoil(up)
		if !slices.Equal(heard[:cap(heard)], was) {
			t.Errorf("an answer shares memory with %v", was)
		}
		holdGuess(t, f(2, 1), heard, want, down, api.OK)
	}
}

// TestE2NothingIsKept: what was handed in may be changed when the call has answered.
func TestE2NothingIsKept(t *testing.T) {
	truths, heard := []int{0, 1}, []int{2, 1}
	d, _ := crowd.Shuffled(f(2, 1), 2, truths)
	up, _, _ := crowd.Guess(f(2, 1), heard)
	spoil(truths)
	spoil(heard)
	if want, _ := crowd.Shuffled(f(2, 1), 2, []int{0, 1}); !slices.EqualFunc(d, want, same) || !slices.Equal(up, []int{3, 0}) {
		t.Errorf("what was answered became %v, %v", d, up)
	}
}

// TestE1AnsweredAgain: the same each time, whatever was asked between.
func TestE1AnsweredAgain(t *testing.T) {
	for range 3 {
		holdShuffled(t, f(2, 1), 2, []int{0}, api.Dist{{Out: []int{0, 1}, Weight: 1}, {Out: []int{1, 0}, Weight: 2}}, api.OK)
		holdGuess(t, f(2, 1), []int{2, 1}, []int{3, 0}, 1, api.OK)
		holdShuffled(t, f(1, 1), 8, make([]int, 8), nil, api.ErrMuch)
		holdGuess(t, f(2, 1), []int{2, -1}, nil, 0, api.ErrFit)
	}
}
