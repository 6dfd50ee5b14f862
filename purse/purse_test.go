package purse_test

import (
	"math"
	"reflect"
	"slices"
	"strings"
	"testing"

	"hushhouse/api"
	"hushhouse/purse"
)

const most = api.MaxPart

func f(up, down int) api.Ratio { return api.Ratio{Up: up, Down: down} }

func open(name string, budget api.Ratio) api.Entry {
	return api.Entry{Do: api.BookOpen, Name: name, Loss: budget}
}

func spend(name string, loss api.Ratio) api.Entry {
	return api.Entry{Do: api.BookSpend, Name: name, Loss: loss}
}

func onPart(name string, part int, loss api.Ratio) api.Entry {
	return api.Entry{Do: api.BookPart, Name: name, Part: part, Loss: loss}
}

// look is all that a book tells.
type look struct {
	entries        []api.Entry
	names          []string
	spent, budgets []api.Ratio
}

func lookAt(t *testing.T, b *purse.Book) look {
	t.Helper()
	out := look{entries: append([]api.Entry{}, b.Entries()...), names: []string{}}
	for n := range b.Names() {
		s, g, err := b.Spent(n)
		if err != api.OK {
			t.Errorf("Spent(%q) tells %d", n, err)
		}
		out.names, out.spent, out.budgets = append(out.names, n), append(out.spent, s), append(out.budgets, g)
	}
	return out
}

// done does entries with which nothing is wrong.
func done(t *testing.T, b *purse.Book, l ...api.Entry) {
	t.Helper()
	for _, e := range l {
		if err := b.Do(e); err != api.OK {
			t.Fatalf("Do(%#v) tells %d", e, err)
		}
	}
}

// refused does one with which something is wrong, and looks whether it changed anything.
func refused(t *testing.T, b *purse.Book, e api.Entry, want api.Errno) {
	t.Helper()
	before := lookAt(t, b)
	if err := b.Do(e); err != want {
		t.Fatalf("Do(%#v) tells %d, not %d", e, err, want)
	}
	if after := lookAt(t, b); !reflect.DeepEqual(after, before) {
		t.Fatalf("Do(%#v) was refused, and changed the book", e)
	}
}

func spentIs(t *testing.T, b *purse.Book, name string, spent, budget api.Ratio) {
	t.Helper()
	if s, g, err := b.Spent(name); s != spent || g != budget || err != api.OK {
		t.Errorf("Spent(%q) is %v of %v, %d, not %v of %v", name, s, g, err, spent, budget)
	}
}

func TestP1SpentOnAll(t *testing.T) {
	b := purse.New()
	done(t, b, open("a", f(100, 1)))
	spentIs(t, b, "a", f(1, 1), f(100, 1))
	done(t, b, spend("a", f(3, 2)))
	spentIs(t, b, "a", f(3, 2), f(100, 1))
	done(t, b, spend("a", f(4, 3)), spend("a", f(1, 1)), spend("a", f(7, 2)))
	spentIs(t, b, "a", f(7, 1), f(100, 1))
}

// TestP1SpentOnParts: of the parts the greatest product counts alone, whichever part it is, and the one that comes to be the greatest takes its place.
func TestP1SpentOnParts(t *testing.T) {
	b := purse.New()
	done(t, b, open("a", f(100, 1)), onPart("a", 5, f(2, 1)))
	spentIs(t, b, "a", f(2, 1), f(100, 1))
	done(t, b, onPart("a", 2, f(3, 2)))
	spentIs(t, b, "a", f(2, 1), f(100, 1))
	done(t, b, onPart("a", 2, f(3, 2)))
	spentIs(t, b, "a", f(9, 4), f(100, 1))
	done(t, b, onPart("a", 9, f(9, 4)), onPart("a", 9, f(1, 1)))
	spentIs(t, b, "a", f(9, 4), f(100, 1))
	done(t, b, onPart("a", 5, f(5, 2)))
	spentIs(t, b, "a", f(5, 1), f(100, 1))
	done(t, b, spend("a", f(3, 1)))
	spentIs(t, b, "a", f(15, 1), f(100, 1))
	done(t, b, onPart("a", 9, f(4, 1)), spend("a", f(1, 1)))
	spentIs(t, b, "a", f(27, 1), f(100, 1))
}

// TestP1PartsOfOnePurse: the same part of two purses is two things.
func TestP1PartsOfOnePurse(t *testing.T) {
	b := purse.New()
	done(t, b, open("a", f(4, 1)), open("b", f(9, 1)), onPart("a", 1, f(4, 1)), onPart("b", 1, f(3, 1)), spend("b", f(3, 1)))
	spentIs(t, b, "a", f(4, 1), f(4, 1))
	spentIs(t, b, "b", f(9, 1), f(9, 1))
}

// TestP1Example is the document's: of a budget 12 nothing is left on the second part, and the first one may still lose 2.
func TestP1Example(t *testing.T) {
	b := purse.New()
	done(t, b, open("a", f(12, 1)), spend("a", f(3, 2)), onPart("a", 1, f(4, 1)), onPart("a", 2, f(8, 1)))
	spentIs(t, b, "a", f(12, 1), f(12, 1))
	refused(t, b, onPart("a", 2, f(most, most-1)), api.ErrMuch)
	refused(t, b, onPart("a", 2, f(9, 8)), api.ErrBudget)
	refused(t, b, onPart("a", 1, f(17, 8)), api.ErrBudget)
	refused(t, b, spend("a", f(9, 8)), api.ErrBudget)
	done(t, b, onPart("a", 1, f(2, 1)), onPart("a", 3, f(8, 1)), spend("a", f(1, 1)))
	spentIs(t, b, "a", f(12, 1), f(12, 1))
	refused(t, b, onPart("a", 1, f(9, 8)), api.ErrBudget)
}

func TestP2Kinds(t *testing.T) {
	b := purse.New()
	done(t, b, open("a", f(2, 1)))
	for _, do := range []int{0, 4, 5, -1, -2, 256 + api.BookSpend, math.MaxInt, math.MinInt} {
		refused(t, b, api.Entry{Do: do, Name: "a", Loss: f(1, 1)}, api.ErrKind)
	}
}

func TestP2Names(t *testing.T) {
	long := strings.Repeat("z", 32)
	b := purse.New()
	for _, n := range []string{"a", "z", "_", "__", "zz_top", long, strings.Repeat("_", 32), long[:31]} {
		done(t, b, open(n, f(2, 1)), spend(n, f(1, 1)), onPart(n, 0, f(3, 2)))
		spentIs(t, b, n, f(3, 2), f(2, 1))
	}
	for _, n := range []string{"", "A", "aB", "a1", "a b", " a", "a ", "a-b", "`", "{", "^", "a\x00", "a\n", "ä", "\xff", long + "z", strings.Repeat("a", 1000)} {
		refused(t, b, open(n, f(2, 1)), api.ErrForm)
		refused(t, b, spend(n, f(1, 1)), api.ErrForm)
		refused(t, b, onPart(n, 0, f(1, 1)), api.ErrForm)
	}
}

func TestP2Losses(t *testing.T) {
	b := purse.New()
	done(t, b, open("a", f(most, 1)))
	for _, r := range []api.Ratio{{}, f(1, 0), f(-1, 1), f(-1, -1), f(-3, -2), f(3, -2), f(2, 2), f(4, 2), f(2, 4), f(0, 2), f(most+1, 1), f(1, most+1), f(most+1, most), f(math.MaxInt, 1), f(math.MinInt, 1), f(1, math.MinInt), f(math.MaxInt, math.MaxInt)} {
		refused(t, b, open("new", r), api.ErrForm)
		refused(t, b, spend("a", r), api.ErrForm)
		refused(t, b, onPart("a", 1, r), api.ErrForm)
	}
	for _, r := range []api.Ratio{f(0, 1), f(1, 2), f(2, 3), f(1, most), f(most-1, most)} {
		refused(t, b, open("new", r), api.ErrRange)
		refused(t, b, spend("a", r), api.ErrRange)
		refused(t, b, onPart("a", 1, r), api.ErrRange)
	}
	for i, r := range []api.Ratio{f(1, 1), f(2, 1), f(most, 1), f(most, most-1)} {
		n := strings.Repeat("n", i+1)
		done(t, b, open(n, r), spend(n, f(1, 1)), onPart(n, 1, f(1, 1)))
		spentIs(t, b, n, f(1, 1), r)
	}
}

// TestP2Full: a loss may make a budget just full; the next fraction above it may not be spent, whatever it is spent on.
func TestP2Full(t *testing.T) {
	const below = (most - 1) / 12
	for _, x := range []struct {
		budget     api.Ratio
		just, over api.Ratio
	}{
		{f(1, 1), f(1, 1), f(most, most-1)},
		{f(12, 1), f(12, 1), f(12*below+1, below)},
		{f(12, 1), f(12*below-1, below), f(13, 1)},
		{f(3, 2), f(3, 2), f(1073741822, 715827881)},
		{f(most, most-1), f(most, most-1), f(most-1, most-2)},
		{f(most-1, 1), f(most-1, 1), f(most, 1)},
	} {
		for part := -1; part < 2; part++ {
			of := func(r api.Ratio) api.Entry {
				if part < 0 {
					return spend("a", r)
				}
				return onPart("a", part, r)
			}
			b := purse.New()
			done(t, b, open("a", x.budget))
			refused(t, b, of(x.over), api.ErrBudget)
			done(t, b, of(x.just))
			spentIs(t, b, "a", x.just, x.budget)
			done(t, b, of(f(1, 1)))
			spentIs(t, b, "a", x.just, x.budget)
		}
	}
}

// TestP2FullTogether: what was spent on all and on a part is held against the budget together, from either side.
func TestP2FullTogether(t *testing.T) {
	b := purse.New()
	done(t, b, open("a", f(6, 1)), onPart("a", 3, f(3, 1)))
	refused(t, b, spend("a", f(201, 100)), api.ErrBudget)
	done(t, b, spend("a", f(2, 1)))
	spentIs(t, b, "a", f(6, 1), f(6, 1))
	refused(t, b, onPart("a", 4, f(301, 100)), api.ErrBudget)
	done(t, b, onPart("a", 4, f(3, 1)))
	refused(t, b, onPart("a", 4, f(101, 100)), api.ErrBudget)
	spentIs(t, b, "a", f(6, 1), f(6, 1))
}

func TestP2Parts(t *testing.T) {
	b := purse.New()
	done(t, b, open("a", f(4, 1)), onPart("a", 0, f(2, 1)), onPart("a", api.MaxNum, f(3, 1)), onPart("a", 0, f(2, 1)))
	spentIs(t, b, "a", f(4, 1), f(4, 1))
	for _, part := range []int{-1, api.MaxNum + 1, -api.MaxNum, math.MaxInt, math.MinInt} {
		refused(t, b, onPart("a", part, f(1, 1)), api.ErrRange)
	}
}

// TestP2PartOfOthers: of what isn't BookPart's the Part says nothing, whatever number it is, and stands as 0.
func TestP2PartOfOthers(t *testing.T) {
	for _, part := range []int{0, 1, -1, api.MaxNum + 1, math.MinInt, math.MaxInt} {
		b := purse.New()
		done(t, b, api.Entry{Do: api.BookOpen, Name: "a", Part: part, Loss: f(6, 1)}, api.Entry{Do: api.BookSpend, Name: "a", Part: part, Loss: f(2, 1)}, onPart("a", 1, f(3, 1)))
		spentIs(t, b, "a", f(6, 1), f(6, 1))
		if got, want := b.Entries(), []api.Entry{open("a", f(6, 1)), spend("a", f(2, 1)), onPart("a", 1, f(3, 1))}; !slices.Equal(got, want) {
			t.Errorf("the entries are %v, not %v", got, want)
		}
	}
}

func TestP3SpentOfNone(t *testing.T) {
	b := purse.New()
	for _, n := range []string{"a", "", "A", "b", "aa", "a ", strings.Repeat("a", 100)} {
		if s, g, err := b.Spent(n); s != (api.Ratio{}) || g != (api.Ratio{}) || err != api.ErrName {
			t.Errorf("Spent(%q) is %v of %v, %d", n, s, g, err)
		}
		refused(t, b, spend("a", f(1, 1)), api.ErrName)
	}
	done(t, b, open("a", f(2, 1)))
	for _, n := range []string{"", "A", "b", "aa", "a "} {
		if s, g, err := b.Spent(n); s != (api.Ratio{}) || g != (api.Ratio{}) || err != api.ErrName {
			t.Errorf("Spent(%q) is %v of %v, %d", n, s, g, err)
		}
	}
	spentIs(t, b, "a", f(1, 1), f(2, 1))
}

func TestP3Entries(t *testing.T) {
	b := purse.New()
	if got := b.Entries(); len(got) != 0 {
		t.Errorf("a new book has the entries %v", got)
	}
	l := []api.Entry{open("b", f(9, 1)), open("a", f(4, 1)), spend("b", f(3, 2)), onPart("a", 7, f(2, 1)), onPart("a", 2, f(1, 1)), spend("b", f(3, 2)), open("c", f(1, 1)), onPart("a", 7, f(2, 1))}
	for i, e := range l {
		done(t, b, e)
		refused(t, b, spend("none", f(1, 1)), api.ErrName)
		if got := b.Entries(); !slices.Equal(got, l[:i+1]) {
			t.Errorf("the entries are %v, not %v", got, l[:i+1])
		}
	}
}

func namesOf(b *purse.Book) []string {
	out := []string{}
	for n := range b.Names() {
		out = append(out, n)
	}
	return out
}

// TestP3Names: the order is that of letters, one by one, with _ ahead of a, and what is shorter ahead of what goes on from it.
func TestP3Names(t *testing.T) {
	b := purse.New()
	if got := namesOf(b); len(got) != 0 {
		t.Errorf("a new book has the purses %q", got)
	}
	var want []string
	for _, n := range []string{"m", "a", "zz_top", "ab", "_", "a_", "z", "aa", "b", "__", strings.Repeat("z", 32)} {
		done(t, b, open(n, f(2, 1)), spend(n, f(1, 1)))
		want = append(want, n)
		slices.Sort(want)
		if got := namesOf(b); !slices.Equal(got, want) {
			t.Errorf("the names are %q, not %q", got, want)
		}
	}
	if last := []string{"_", "__", "a", "a_", "aa", "ab", "b", "m", "z", "zz_top", strings.Repeat("z", 32)}; !slices.Equal(want, last) {
		t.Errorf("%q are not %q", want, last)
	}
}

// TestP3NamesAgain: one sequence is gone through again and again, and broken off in its midst, at each place.
func TestP3NamesAgain(t *testing.T) {
	b := purse.New()
	all := []string{"a", "b", "c", "d", "e"}
	for _, n := range []string{"d", "b", "e", "a", "c"} {
		done(t, b, open(n, f(2, 1)))
	}
	names := b.Names()
	for stop := range len(all) + 2 {
		var got []string
		no := false
		names(func(n string) bool {
			if no {
				t.Errorf("%q is told behind a no", n)
			}
			got = append(got, n)
			no = len(got) >= stop
			return !no
		})
		if want := all[:min(max(stop, 1), len(all))]; !slices.Equal(got, want) {
			t.Errorf("until %d the names are %q, not %q", stop, got, want)
		}
	}
	for x := range names {
		for y := range names {
			if y == "c" {
				break
			}
			if y > "c" {
				t.Errorf("within %q %q is told behind a no", x, y)
			}
		}
	}
}
