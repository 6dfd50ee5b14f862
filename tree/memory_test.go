package tree_test

import (
	"reflect"
	"slices"
	"testing"

	"hushhouse/api"
	"hushhouse/tree"
)

// TestE1TwoCounters: steps of one, between those of another one, are nothing to it.
func TestE1TwoCounters(t *testing.T) {
	alone := fresh(t, 3, f(3, 2), 0, 8)
	var want [][]api.Dist
	for step := range power(3) {
		told, _ := alone.Step(step)
		want = append(want, told)
	}
	a, b, other := fresh(t, 3, f(3, 2), 0, 8), fresh(t, 3, f(3, 2), 0, 8), fresh(t, 5, f(2, 1), -2, 6)
	for step := range power(3) {
		holdStep(t, a, step, want[step]...)
		other.Step(4)
		other.Step(-4)
		if b.Time() != 0 || a.Time() != step+1 || other.Time() != step+1 {
			t.Fatalf("the times are %d, %d, %d", a.Time(), b.Time(), other.Time())
		}
	}
	refused(t, a, 0, api.ErrState)
	for step := range power(3) {
		holdStep(t, b, step, want[step]...)
	}
	if a.Lost() != f(81, 16) || other.Lost() != f(64, 1) {
		t.Errorf("%v and %v are lost", a.Lost(), other.Lost())
	}
	fresh(t, 3, f(3, 2), 0, 8)
	holdStep(t, other, 0, hidden(t, f(2, 1), -2, 6, []int{0})...)
}

// TestE1Asking: however often a counter is asked, it stays as it is.
func TestE1Asking(t *testing.T) {
	c := fresh(t, 1, f(2, 1), 0, 3)
	for range 5 {
		if c.Time() != 0 || c.Lost() != f(4, 1) {
			t.Fatalf("the time is %d, %v is lost", c.Time(), c.Lost())
		}
	}
	holdStep(t, c, 2, line(0, 1, 1, 2, 2))
}

// spoil writes over all of what was told, its spare room too.
func spoil(l []api.Dist) {
	l = l[:cap(l)]
	for i := range l {
		spoilOne(l[i])
		l[i] = api.Dist{{Weight: -2}}
	}
}

func spoilOne(d api.Dist) {
	d = d[:cap(d)]
	for i, p := range d {
		out := p.Out[:cap(p.Out)]
		for k := range out {
			out[k] = -12345
		}
		d[i] = api.Part{Out: []int{-54321}, Weight: -1}
	}
}

func cloned(l []api.Dist) []api.Dist {
	var out []api.Dist
	for _, d := range l {
		var parts api.Dist
		for _, p := range d {
			parts = append(parts, api.Part{Out: slices.Clone(p.Out), Weight: p.Weight})
		}
		out = append(out, parts)
	}
	return out
}

// TestE2ToldIsNew: whoever writes over what was told, as soon as it was, changes neither the counter nor what was told ahead, nor another part of the answer.
func TestE2ToldIsNew(t *testing.T) {
	for _, w := range [][2]int{{0, 4}, {3, 3}} {
		calm, spoilt := fresh(t, 4, f(3, 2), w[0], w[1]), fresh(t, 4, f(3, 2), w[0], w[1])
		var kept, want [][]api.Dist
		for range power(4) {
			told, _ := calm.Step(0) // all nodes alike: shared memory would be seen
			kept, want = append(kept, told), append(want, cloned(told))
			other, err := spoilt.Step(0)
			if err != api.OK || !reflect.DeepEqual(other, told) {
				t.Fatalf("what was told and changed made %v, %d of %v", other, err, told)
			}
			for i := range other {
				spoilOne(other[i])
				if !reflect.DeepEqual(other[i+1:], told[i+1:]) {
					t.Fatalf("the level %d shares memory with another one", i)
				}
			}
			spoil(other)
		}
		if !reflect.DeepEqual(kept, want) {
			t.Errorf("what was told became %v, that was %v", kept, want)
		}
		refused(t, spoilt, 0, api.ErrState)
	}
}

func TestE2PartsAreApart(t *testing.T) {
	c := fresh(t, 1, f(3, 2), 0, 4)
	c.Step(1)
	told, _ := c.Step(1)
	for _, d := range told {
		for i, p := range d {
			out := p.Out[:cap(p.Out)]
			for k := range out {
				out[k] = -1
			}
			for k, other := range d[i+1:] {
				if other.Out[0] != i+1+k {
					t.Errorf("two outcomes share memory")
				}
			}
		}
	}
}

func TestE2SpotsAreNew(t *testing.T) {
	for _, ask := range []func(high, time int) ([]api.Spot, api.Errno){tree.Spots, tree.Cover} {
		for _, x := range [][2]int{{3, 5}, {10, 1023}, {0, 0}, {3, 7}} {
			first, _ := ask(x[0], x[1])
			second, _ := ask(x[0], x[1])
			want := slices.Clone(second)
			all := first[:cap(first)]
			for i := range all {
				all[i] = api.Spot{Level: -1, At: -1}
			}
			third, _ := ask(x[0], x[1])
			if !slices.Equal(second, want) || !slices.Equal(third, want) {
				t.Errorf("two answers share memory: %v, %v", second, third)
			}
		}
	}
}

// roomy lays a list with spare room behind it, so that what is written there is seen.
func roomy[T any](l []T, behind T) []T {
	return append(append(make([]T, 0, len(l)+2), l...), behind, behind)[:len(l)]
}

func wholeTold(told [][]int) [][]int {
	var out [][]int
	for _, l := range told[:cap(told)] {
		out = append(out, append([]int{len(l)}, l[:cap(l)]...))
	}
	return out
}

// TestE2SoOnlyReads: neither what was told nor the spare room behind it is written to, and nothing of it is kept.
func TestE2SoOnlyReads(t *testing.T) {
	for _, long := range [][][]int{{{1}, {2, 3}, {4}, {5, 6, 7}}, {{1}, {2}, {}, {5, 6, 1 << 31}}} {
		var lists [][]int
		for _, l := range long {
			lists = append(lists, roomy(l, 91))
		}
		told := roomy(lists, []int{92})
		was := wholeTold(told)
		for time := -1; time < 6; time++ {
			first, ferr := tree.So(2, told, time)
			again, err := tree.So(2, told, time)
			if first != again || ferr != err {
				t.Errorf("So at %d is %d, %d, then %d, %d", time, first, ferr, again, err)
			}
		}
		if got := wholeTold(told); !reflect.DeepEqual(got, was) {
			t.Errorf("So has changed %v to %v", was, got)
		}
	}
	told := [][]int{{1}, {2, 3}}
	holdSo(t, 1, told, 2, 3, api.OK)
	told[1][1] = 8
	holdSo(t, 1, told, 2, 8, api.OK)
	told[1] = nil
	holdSo(t, 1, told, 2, 0, api.ErrFit)
}

func TestE3NilAndEmptyAreTheSame(t *testing.T) {
	for _, none := range [][]int{nil, {}, roomy([]int{}, 7)} {
		holdSo(t, 2, [][]int{none}, 0, 0, api.OK)
		holdSo(t, 2, [][]int{none}, 1, 0, api.ErrFit)
		holdSo(t, 2, [][]int{none, {1, 2}}, 2, 2, api.OK)
		holdSo(t, 2, [][]int{none, {1, 2}}, 1, 0, api.ErrFit)
	}
	for _, told := range [][][]int{nil, {}, roomy([][]int{}, []int{7})} {
		holdSo(t, 2, told, 0, 0, api.OK)
		holdSo(t, 2, told, 1, 0, api.ErrFit)
		holdSo(t, 2, told, 5, 0, api.ErrRange)
	}
}
