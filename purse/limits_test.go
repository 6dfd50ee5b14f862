package purse_test

import (
	"slices"
	"strings"
	"testing"

	"hushhouse/api"
	"hushhouse/purse"
)

// nth is a name for each number, as many as are wanted.
func nth(i int) string { return strings.Repeat(string(rune('a'+i%26)), 1+i/26) }

func TestP2MaxPurses(t *testing.T) {
	b := purse.New()
	for i := range api.MaxPurses {
		done(t, b, open(nth(i), f(i+1, 1)))
	}
	refused(t, b, open("one_more", f(2, 1)), api.ErrMany)
	refused(t, b, spend("one_more", f(1, 1)), api.ErrName)
	for i := range api.MaxPurses {
		done(t, b, spend(nth(i), f(i+1, 1)))
		spentIs(t, b, nth(i), f(i+1, 1), f(i+1, 1))
		refused(t, b, open(nth(i), f(2, 1)), api.ErrName)
	}
	if got := namesOf(b); len(got) != api.MaxPurses || !slices.IsSorted(got) {
		t.Errorf("the names are %q", got)
	}
}

// TestP2MaxParts: also a loss of 1 is spent on a part, so that the part counts; the bound is of one purse, not of all of them.
func TestP2MaxParts(t *testing.T) {
	b := purse.New()
	done(t, b, open("a", f(4, 1)), open("b", f(4, 1)))
	for k := range api.MaxParts {
		done(t, b, onPart("a", 1000-k, f(1, 1)), onPart("b", 2*k, f(2, 1)), onPart("a", 1000-k, f(1, 1)))
	}
	for _, n := range []string{"a", "b"} {
		refused(t, b, onPart(n, 1001, f(1, 1)), api.ErrMany)
		refused(t, b, onPart(n, api.MaxNum, f(2, 1)), api.ErrMany)
	}
	refused(t, b, onPart("b", 1, f(1, 1)), api.ErrMany)
	refused(t, b, onPart("a", 0, f(5, 1)), api.ErrMany)
	for k := range api.MaxParts {
		done(t, b, onPart("a", 1000-k, f(2, 1)), onPart("b", 2*k, f(2, 1)))
	}
	done(t, b, spend("a", f(2, 1)), open("c", f(2, 1)), onPart("c", 1001, f(2, 1)))
	spentIs(t, b, "a", f(4, 1), f(4, 1))
	spentIs(t, b, "b", f(4, 1), f(4, 1))
}

// fullBook has no room for an entry more; besides there are as many purses, and of "a" as many parts, as there may be, and all of its budget is spent.
func fullBook(t *testing.T) *purse.Book {
	b := purse.New()
	done(t, b, open("a", f(6, 1)), spend("a", f(3, 1)))
	for k := range api.MaxParts {
		done(t, b, onPart("a", k, f(2, 1)))
	}
	for i := 1; i < api.MaxPurses; i++ {
		done(t, b, open(nth(i), f(1, 1)))
	}
	for len(b.Entries()) < api.MaxEntries {
		done(t, b, spend("a", f(1, 1)))
	}
	return b
}

func TestP2MaxEntries(t *testing.T) {
	b := purse.New()
	done(t, b, open("a", f(5, 1)), open("b", f(5, 1)))
	for i := 2; i < api.MaxEntries; i++ {
		done(t, b, []api.Entry{spend("a", f(1, 1)), onPart("b", i%64, f(1, 1))}[i%2])
	}
	for _, e := range []api.Entry{open("c", f(1, 1)), spend("a", f(1, 1)), spend("b", f(2, 1)), onPart("a", 1, f(1, 1)), onPart("b", 1, f(2, 1))} {
		refused(t, b, e, api.ErrMuch)
	}
	l := b.Entries()
	if len(l) != api.MaxEntries || l[0] != open("a", f(5, 1)) || l[api.MaxEntries-1] != onPart("b", 63, f(1, 1)) {
		t.Errorf("there are %d entries", len(l))
	}
	spentIs(t, b, "a", f(1, 1), f(5, 1))
	if got := namesOf(b); !slices.Equal(got, []string{"a", "b"}) {
		t.Errorf("the names are %q", got)
	}
}

// TestP2RefusedTakesNoRoom: what is refused is no entry, however often it comes.
func TestP2RefusedTakesNoRoom(t *testing.T) {
	b := purse.New()
	done(t, b, open("a", f(2, 1)))
	for range api.MaxEntries + 1 {
		if err := b.Do(spend("a", f(3, 1))); err != api.ErrBudget {
			t.Fatalf("a loss above the budget tells %d", err)
		}
	}
	for k := range api.MaxParts + 1 {
		if err := b.Do(onPart("a", k, f(3, 1))); err != api.ErrBudget {
			t.Fatalf("a loss above the budget tells %d", err)
		}
	}
	for k := range api.MaxParts {
		done(t, b, onPart("a", 100+k, f(2, 1)))
	}
}

// TestP2ProductsOnAll: what was spent on all can't be told, where the budget is passed and where it isn't.
func TestP2ProductsOnAll(t *testing.T) {
	b := purse.New()
	done(t, b, open("a", f(most, 1)), spend("a", f(1<<20, 3)))
	refused(t, b, spend("a", f(1<<20, 7)), api.ErrMuch)
	done(t, b, spend("a", f(3<<10, 1)))
	spentIs(t, b, "a", f(most, 1), f(most, 1))
	refused(t, b, spend("a", f(2, 1)), api.ErrMuch)
	refused(t, b, spend("a", f(most, most-1)), api.ErrMuch)

	done(t, b, open("b", f(2, 1)), spend("b", f(most, most-1)))
	refused(t, b, spend("b", f(most, most-1)), api.ErrMuch)
	refused(t, b, spend("b", f(5, 1)), api.ErrMuch)
	done(t, b, spend("b", f(most-1, most-2)))
	spentIs(t, b, "b", f(most>>1, most>>1-1), f(2, 1))
}

// TestP2ProductsOnOnePart: of a part also where another one is the greatest, so that the budget isn't passed.
func TestP2ProductsOnOnePart(t *testing.T) {
	b := purse.New()
	done(t, b, open("a", f(4, 1)), onPart("a", 1, f(4, 1)), onPart("a", 2, f(most, most-1)))
	refused(t, b, onPart("a", 2, f(most, most-1)), api.ErrMuch)
	refused(t, b, onPart("a", 2, f(5, 1)), api.ErrMuch)
	refused(t, b, onPart("a", 1, f(most, 1)), api.ErrMuch)
	refused(t, b, onPart("a", 3, f(most, 1)), api.ErrBudget)
	done(t, b, onPart("a", 2, f(most-1, 1<<29)), onPart("a", 2, f(2, 1)))
	spentIs(t, b, "a", f(4, 1), f(4, 1))
}

// TestP2ProductsOfBoth: either of two products can be told, and what is spent can't; the loss comes from either side.
func TestP2ProductsOfBoth(t *testing.T) {
	b := purse.New()
	done(t, b, open("a", f(most, 1)), spend("a", f(1<<15, 1)))
	refused(t, b, onPart("a", 1, f(1<<15+1, 1)), api.ErrMuch)
	done(t, b, onPart("a", 1, f(1<<15, 1)))
	refused(t, b, spend("a", f(2, 1)), api.ErrMuch)
	spentIs(t, b, "a", f(most, 1), f(most, 1))

	done(t, b, open("b", f(2, 1)), onPart("b", 1, f(1<<15+1, 1<<15)))
	refused(t, b, spend("b", f(1<<15+3, 1<<15)), api.ErrMuch)
	done(t, b, spend("b", f(1<<14+1, 1<<14)))
	refused(t, b, onPart("b", 2, f(1<<16+1, 1<<15)), api.ErrMuch)
	spentIs(t, b, "b", f((1<<15+1)*(1<<14+1), 1<<29), f(2, 1))

	done(t, b, open("c", f(2, 1)), spend("c", f(2, 1)))
	refused(t, b, onPart("c", 1, f(most, most-1)), api.ErrMuch)
	refused(t, b, spend("c", f(most, most-1)), api.ErrMuch)
	refused(t, b, onPart("c", 1, f(1<<29, 1<<29-1)), api.ErrBudget)
}

// TestP2ProductsOfNone: what was spent on all times what was spent on a part that isn't the greatest is none of the products of which a purse is made.
func TestP2ProductsOfNone(t *testing.T) {
	b := purse.New()
	done(t, b, open("a", f(most, 1)), spend("a", f(most, most-1)))
	refused(t, b, onPart("a", 2, f(5, 2)), api.ErrMuch)
	done(t, b, onPart("a", 1, f(most-1, 1)), onPart("a", 2, f(5, 2)))
	spentIs(t, b, "a", f(most, 1), f(most, 1))
}
