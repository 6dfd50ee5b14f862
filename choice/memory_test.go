package choice_test

import (
	"reflect"
	"slices"
	"testing"

	"hushhouse/api"
	"hushhouse/choice"
)

// roomy lays a list with spare room behind it, so that what is written there is seen.
func roomy[T any](l []T, behind T) []T {
	return append(append(make([]T, 0, len(l)+2), l...), behind, behind)[:len(l)]
}

// wholeList is all of a list with its spare room.
func wholeList[T any](l []T) []T { return slices.Clone(l[:cap(l)]) }

func roomyDist(d api.Dist) api.Dist {
	var parts []api.Part
	for _, x := range d {
		parts = append(parts, api.Part{Out: roomy(x.Out, 91), Weight: x.Weight})
	}
	return roomy(parts, api.Part{Out: []int{92}, Weight: 93})
}

func wholeDist(d api.Dist) api.Dist {
	var out api.Dist
	for _, x := range d[:cap(d)] {
		out = append(out, api.Part{Out: append([]int{len(x.Out)}, wholeList(x.Out)...), Weight: x.Weight})
	}
	return out
}

// someScores are lists of scores, and wrong ones.
func someScores() [][]int {
	return [][]int{{3}, {1, 0}, {2, 0, 1, 2}, {0, 0, 0}, {5, 64}, {0, 65}, {edge + 1}, {}, times(9, 1), times(8, 1)}
}

func TestNothingIsWritten(t *testing.T) {
	for _, l := range someScores() {
		for _, r := range []api.Ratio{f(2, 1), f(3, 2), f(1, 1), f(1, 2), f(2, 2), f(most, 1)} {
			for _, c := range choosers() {
				l := roomy(l, 99)
				was := wholeList(l)
				c.do(r, l)
				if !slices.Equal(wholeList(l), was) {
					t.Errorf("%s has changed the scores to %v", c.name, wholeList(l))
				}
			}
		}
		for _, d := range append(wrongs, line(1), line(2, 1), api.Dist{p(1)}, api.Dist{p(1, 0, 0)}) {
			d, l := roomyDist(d), roomy(l, 99)
			was, wasDist := wholeList(l), wholeDist(d)
			choice.Score(d, l)
			if !slices.Equal(wholeList(l), was) || !reflect.DeepEqual(wholeDist(d), wasDist) {
				t.Errorf("Score has changed what was handed in: %v, %v", wholeDist(d), wholeList(l))
			}
		}
	}
	for _, counts := range [][]int{{}, {5}, {1, 2, 3, 4}, {4, 0, 0, 4}, {1, -1, 2}, times(api.MaxCells+1, 1)} {
		counts := roomy(counts, 99)
		was := wholeList(counts)
		choice.Middle(counts)
		if !slices.Equal(wholeList(counts), was) {
			t.Errorf("Middle has changed the counts to %v", wholeList(counts))
		}
	}
}

// spoil writes over all of a distribution, its spare room too.
func spoil(d api.Dist) {
	all := d[:cap(d)]
	for i, x := range all {
		spoilList(x.Out)
		all[i] = api.Part{Out: []int{-54321}, Weight: -1}
	}
}

func spoilList(l []int) {
	all := l[:cap(l)]
	for i := range all {
		all[i] = -12345
	}
}

func cloned(d api.Dist) api.Dist {
	var out api.Dist
	for _, x := range d {
		out = append(out, api.Part{Out: slices.Clone(x.Out), Weight: x.Weight})
	}
	return out
}

func TestAnswersAreNewMemory(t *testing.T) {
	for _, l := range someScores() {
		for _, c := range choosers() {
			l := roomy(l, 99)
			was := wholeList(l)
			first, _ := c.do(f(3, 2), l)
			second, _ := c.do(f(3, 2), l)
			want := cloned(second)
			spoil(first)
			third, _ := c.do(f(3, 2), l)
			if !reflect.DeepEqual(cloned(second), want) || !reflect.DeepEqual(cloned(third), want) || !slices.Equal(wholeList(l), was) {
				t.Errorf("%s: an answer shares memory", c.name)
			}
			for i, x := range second {
				spoilList(x.Out)
				if !reflect.DeepEqual(cloned(second[i+1:]), cloned(want[i+1:])) {
					t.Errorf("%s: two outcomes share memory", c.name)
				}
			}
		}
	}
	counts := roomy([]int{1, 2, 3, 4}, 99)
	was := wholeList(counts)
	first, _ := choice.Middle(counts)
	second, _ := choice.Middle(counts)
	spoilList(first)
	if !slices.Equal(second, []int{-8, -4, 0, -2}) || !slices.Equal(wholeList(counts), was) {
		t.Errorf("Middle: an answer shares memory: %v, %v", second, wholeList(counts))
	}
	holdMiddle(t, counts, []int{-8, -4, 0, -2}, api.OK)
}

// TestNothingIsKept: what was handed in may be changed when a call has answered.
func TestNothingIsKept(t *testing.T) {
	l := []int{1, 0}
	weighed, _ := choice.Weigh(f(2, 1), l)
	flipped, _ := choice.Flip(f(2, 1), l)
	l[0], l[1] = 0, 3
	holdDist(t, "Weigh", weighed, api.OK, line(2, 1), api.OK)
	holdDist(t, "Flip", flipped, api.OK, line(3, 1), api.OK)
	weighed, err := choice.Weigh(f(2, 1), l)
	holdDist(t, "Weigh", weighed, err, line(1, 8), api.OK)

	d := line(1, 1)
	holdScore(t, "as it was", d, l, 3, 2, api.OK)
	d[1].Out[0], l[1] = 2, 5
	holdScore(t, "changed", d, append(l, 4), 2, 1, api.OK)

	counts := []int{1, 2}
	middle, _ := choice.Middle(counts)
	counts[0] = 7
	if !slices.Equal(middle, []int{-1, 0}) {
		t.Errorf("Middle is %v", middle)
	}
}

func TestNilAndEmptyAreTheSame(t *testing.T) {
	for _, none := range [][]int{nil, {}, roomy([]int{}, 7)} {
		for _, c := range choosers() {
			for r, want := range map[api.Ratio]api.Errno{f(2, 1): api.ErrMany, f(1, 2): api.ErrRange, f(2, 2): api.ErrForm} {
				got, err := c.do(r, none)
				holdDist(t, c.name, got, err, nil, want)
			}
		}
		for _, d := range []api.Dist{nil, {}, roomy(api.Dist{}, p(1, 0))} {
			holdScore(t, "nothing", d, none, 0, 0, api.ErrNone)
			holdScore(t, "nothing", d, []int{1}, 0, 0, api.ErrNone)
		}
		holdScore(t, "an empty outcome", api.Dist{p(1, none...)}, []int{1}, 0, 0, api.ErrFit)
		holdScore(t, "no scores", line(1), none, 0, 0, api.ErrFit)
		holdMiddle(t, none, nil, api.OK)
	}
}
