package mask_test

import (
	"reflect"
	"slices"
	"testing"

	"hushhouse/api"
	"hushhouse/mask"
)

// roomy lays a list with spare room behind it, so that what is written there is seen.
func roomy[T any](l []T, behind T) []T {
	return append(append(make([]T, 0, len(l)+2), l...), behind, behind)[:len(l)]
}

// wholeLists are all lists with their spare room.
func wholeLists(l [][]int) [][]int {
	var out [][]int
	for _, x := range l[:cap(l)] {
		out = append(out, append([]int{len(x)}, x[:cap(x)]...))
	}
	return out
}

func TestE2OnlyRead(t *testing.T) {
	for _, last := range []int{0, 5, 7, -1} { // with what is wrong and without
		shared := roomy([]int{3, 6, last}, 91)
		was := slices.Clone(shared[:cap(shared)])
		mask.Mask(7, 1, 4, shared)
		if !slices.Equal(shared[:cap(shared)], was) {
			t.Errorf("%v became %v", was, shared[:cap(shared)])
		}

		masked, there := roomy([]int{0, 2, last}, 92), roomy([]bool{true, false, true}, true)
		shown := roomy([][]int{roomy([]int{0, 3, 6}, 93), roomy([]int{9}, 94), roomy([]int{6, last, 0}, 95)}, []int{96})
		wasMasked, wasThere, wasShown := slices.Clone(masked[:cap(masked)]), slices.Clone(there[:cap(there)]), wholeLists(shown)
		mask.Sum(7, masked, there, shown)
		if !slices.Equal(masked[:cap(masked)], wasMasked) || !slices.Equal(there[:cap(there)], wasThere) || !reflect.DeepEqual(wholeLists(shown), wasShown) {
			t.Errorf("%v, %v, %v became %v, %v, %v", wasMasked, wasThere, wasShown, masked, there, shown)
		}
	}
}

// TestE1AnsweredAgain: the same each time, whatever was asked between, and of lists that share memory.
func TestE1AnsweredAgain(t *testing.T) {
	one := []int{2, 2, 2}
	for range 3 {
		holdMask(t, 7, 1, 4, []int{3, 0, 2}, 3, api.OK)
		holdSum(t, 7, one, []bool{true, false, true}, [][]int{one, one, one}, 4, api.OK)
		holdMask(t, 5, 1, 5, []int{3, 0, 2}, 0, api.ErrRange)
		holdSum(t, 5, one, []bool{true, false, true}, [][]int{one, one}, 0, api.ErrFit)
	}
}
