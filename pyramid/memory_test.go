package pyramid_test

import (
	"slices"
	"testing"

	"hushhouse/api"
	"hushhouse/pyramid"
)

// roomy lays a list with spare room behind it, so that what is written there is seen.
func roomy(l []int) []int {
	return append(append(make([]int, 0, len(l)+3), l...), 91, 92, 93)[:len(l)]
}

// answered are what Sums and Agree say of lists of a pyramid with two ways, two levels below the top.
func answered(low, told []int) (sums, up []int, down int) {
	sums, _ = pyramid.Sums(2, 2, low)
	up, down, _ = pyramid.Agree(2, 2, told)
	return sums, up, down
}

func spoil(l []int) {
	l = l[:cap(l)]
	for i := range l {
		l[i] = -12345
	}
}

// TestE2OnlyRead: neither a list nor the spare room behind it is written to, whether something is wrong with it or not.
func TestE2OnlyRead(t *testing.T) {
	for _, l := range [][]int{{5}, {1, 2, 3, 4}, {11, 3, 6, 1, 1, 3, 5}, {1, 2, 3, 1 << 20}, {11, 3, 6, 1, 1, 3, -1 << 20}, {}} {
		for high := -1; high < 4; high++ {
			list := roomy(l)
			was := slices.Clone(list[:cap(list)])
			pyramid.Sums(2, high, list)
			pyramid.Agree(2, high, list)
			if got := list[:cap(list)]; !slices.Equal(got, was) {
				t.Errorf("%v became %v", was, got)
			}
		}
	}
}

// TestE2AnswersAreNew: whoever writes over an answer changes neither what was handed in nor another answer; whoever writes over what was handed in changes no answer.
func TestE2AnswersAreNew(t *testing.T) {
	for _, told := range [][]int{{11, 3, 6, 1, 1, 3, 5}, {10, 3, 7, 1, 2, 3, 4}, {0, 0, 0, 0, 0, 0, 0}} {
		low := roomy([]int{1, 2, 3, 4})
		told = roomy(told)
		lowWas, toldWas := slices.Clone(low[:cap(low)]), slices.Clone(told[:cap(told)])
		sums, up, down := answered(low, told)
		wantSums, wantUp := slices.Clone(sums), slices.Clone(up)
		otherSums, otherUp, _ := answered(low, told)
		spoil(otherSums)
		spoil(otherUp)
		if !slices.Equal(low[:cap(low)], lowWas) || !slices.Equal(told[:cap(told)], toldWas) {
			t.Errorf("an answer shares memory with what was handed in")
		}
		again, upAgain, downAgain := answered(low, told)
		if !slices.Equal(again, wantSums) || !slices.Equal(upAgain, wantUp) || downAgain != down {
			t.Errorf("what was answered and changed made %v and %v, %d", again, upAgain, downAgain)
		}
		spoil(low)
		spoil(told)
		if !slices.Equal(sums, wantSums) || !slices.Equal(up, wantUp) {
			t.Errorf("answers became %v and %v", sums, up)
		}
	}
}

func TestE2TopAlone(t *testing.T) {
	one := []int{5}
	sums, _ := pyramid.Sums(2, 0, one)
	up, _, _ := pyramid.Agree(2, 0, one)
	one[0] = 6
	if sums[0] != 5 || up[0] != 5 {
		t.Errorf("an answer is what was handed in: %v, %v", sums, up)
	}
}

func TestE3NilAndEmptyAreTheSame(t *testing.T) {
	for _, none := range [][]int{nil, {}, roomy(nil)} {
		for _, p := range plans() {
			holdSums(t, p.ways, p.high, none, nil, api.ErrFit)
			holdAgree(t, p.ways, p.high, none, nil, 0, api.ErrFit)
		}
		holdSums(t, 1, 0, none, nil, api.ErrRange)
		holdAgree(t, 2, 10, none, nil, 0, api.ErrMuch)
	}
}
