package speech_test

import (
	"reflect"
	"slices"
	"strings"
	"testing"
	"unsafe"

	"hushhouse/api"
	"hushhouse/speech"
)

// roomy lays a list with spare room behind it, so that what is written there is seen.
func roomy[T any](l []T, behind T) []T {
	return append(append(make([]T, 0, len(l)+2), l...), behind, behind)[:len(l)]
}

func roomyAsk(a api.Ask) api.Ask {
	a.Where = roomy(a.Where, test("spare", 94, 95))
	var kids []api.Ask
	for _, kid := range a.Kids {
		kids = append(kids, roomyAsk(kid))
	}
	a.Kids = roomy(kids, api.Ask{Kind: 96})
	return a
}

// copied is all of a list with its spare room.
func copied[T any](l []T) []T { return slices.Clone(l[:cap(l)]) }

// wholeAsk is a copy of a question with all its spare room.
func wholeAsk(a api.Ask) api.Ask {
	a.Where = copied(a.Where)
	kids := copied(a.Kids)
	for i, kid := range kids {
		kids[i] = wholeAsk(kid)
	}
	a.Kids = kids
	return a
}

// questions are some of every kind, right ones and wrong ones.
func questions() []api.Ask {
	some := []api.Test{is("b", 1), test("c", api.TestLeast, -1)}
	a := bins("a", some...)
	return []api.Ask{
		count(), count(some...), sum("a", 1, 2, some...), a, add(a, a), sub(a, a), join(a, count()), times(-3, a), total(a), pick(2, a), clamp(0, 1, a),
		join(join(a, times(2, a)), clamp(-1, 1, sub(a, add(a, a)))), pick(1, pick(0, times(2, a))),
		{}, bins("in"), count(test("a", 0, 0)), times(1<<30, a), {Kind: api.AskTotal, Kids: []api.Ask{a, a}},
		repeated(70, a, total), count(slices.Repeat(some, api.MaxAsk)...), repeated(12, a, func(a api.Ask) api.Ask { return join(a, a) }),
	}
}

func TestNothingIsWritten(t *testing.T) {
	for _, a := range questions() {
		a = roomyAsk(a)
		was := wholeAsk(a)
		speech.Print(a)
		if !reflect.DeepEqual(wholeAsk(a), was) {
			t.Errorf("what was handed in is changed by Print of %s", short(a))
		}
	}
}

// lists are all lists of a question, each with its spare room.
func lists(a api.Ask) (tests [][]api.Test, kids [][]api.Ask) {
	tests = append(tests, a.Where[:cap(a.Where)])
	kids = append(kids, a.Kids[:cap(a.Kids)])
	for _, kid := range a.Kids {
		t, k := lists(kid)
		tests, kids = append(tests, t...), append(kids, k...)
	}
	return tests, kids
}

// TestAnswersAreNewMemory: no two lists of what is read have an entry, or spare room, in one place.
func TestAnswersAreNewMemory(t *testing.T) {
	text := "join (count where a = 1 and b = 2 and c = 3, bins a where a = 1 and b = 2 - count[1][2] + 2 * (count where a = 1 and b = 2 and c = 3 + count)) + join (count, count)"
	first, _ := speech.Read(text)
	second, _ := speech.Read(text)
	third, _ := speech.Read(text)
	tests, kids := lists(first)
	moreTests, moreKids := lists(second)
	seenTests, seenKids := map[*api.Test]bool{}, map[*api.Ask]bool{}
	for _, l := range append(tests, moreTests...) {
		for i := range l {
			if seenTests[&l[i]] {
				t.Fatalf("two lists of tests share memory")
			}
			seenTests[&l[i]] = true
		}
	}
	for _, l := range append(kids, moreKids...) {
		for i := range l {
			if seenKids[&l[i]] {
				t.Fatalf("two lists of questions share memory")
			}
			seenKids[&l[i]] = true
		}
	}
	for _, l := range kids {
		clear(l)
	}
	for _, l := range tests {
		clear(l)
	}
	if again, _ := speech.Read(text); !equal(again, third) || !equal(second, third) {
		t.Errorf("what is written over one answer is to be seen in another")
	}
}

// TestNamesAreNewMemory: a name isn't a piece of the text that was handed in, which may be long.
func TestNamesAreNewMemory(t *testing.T) {
	s := strings.Clone("sum abc in 1..2 where def = 1 and ghi = 2")
	from := uintptr(unsafe.Pointer(unsafe.StringData(s)))
	a, _ := speech.Read(s)
	for _, name := range []string{a.Column, a.Where[0].Column, a.Where[1].Column} {
		if at := uintptr(unsafe.Pointer(unsafe.StringData(name))); at >= from && at < from+uintptr(len(s)) {
			t.Errorf("%q lies in the text", name)
		}
	}
}

// TestNothingIsKept: what was handed in may be changed when a call has answered.
func TestNothingIsKept(t *testing.T) {
	a := total(bins("a", is("b", 1)))
	got, _ := speech.Print(a)
	a.Kids[0].Where[0].Value, a.Kids[0].Column = 2, "c"
	if got != "total (bins a where b = 1)" {
		t.Errorf("the answer has become %q", got)
	}
	holdPrint(t, a, "total (bins c where b = 2)")
}

func TestNilAndEmptyAreTheSame(t *testing.T) {
	for _, tests := range [][]api.Test{nil, {}} {
		for _, kids := range [][]api.Ask{nil, {}} {
			a := api.Ask{Kind: api.AskCount, Where: tests, Kids: kids}
			holdPrint(t, a, "count")
			holdPrint(t, api.Ask{Kind: api.AskTotal, Where: tests, Kids: []api.Ask{a}}, "total (count)")
			holdUnsaid(t, "no kids", api.Ask{Kind: api.AskTotal, Where: tests, Kids: kids}, api.ErrForm)
			holdUnsaid(t, "nothing", api.Ask{Where: tests, Kids: kids}, api.ErrForm)
		}
	}
}
