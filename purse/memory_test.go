package purse_test

import (
	"reflect"
	"slices"
	"strings"
	"testing"
	"unsafe"

	"hushhouse/api"
	"hushhouse/purse"
)

func filled(t *testing.T) *purse.Book {
	b := purse.New()
	done(t, b, open("b", f(9, 1)), open("a", f(8, 1)), spend("a", f(2, 1)), onPart("a", 3, f(3, 1)), onPart("b", 3, f(4, 1)))
	return b
}

// TestE1TwoBooks: what is done with one book is nothing to another one.
func TestE1TwoBooks(t *testing.T) {
	a, b := filled(t), filled(t)
	before := lookAt(t, b)
	done(t, a, open("c", f(2, 1)), onPart("a", 4, f(2, 1)), onPart("b", 4, f(2, 1)), spend("a", f(4, 3)))
	if after := lookAt(t, b); !reflect.DeepEqual(after, before) {
		t.Errorf("one book made %v of %v in the other one", after, before)
	}
	fresh := purse.New()
	if got := lookAt(t, fresh); len(got.entries) != 0 || len(got.names) != 0 {
		t.Errorf("a new book has %v", got)
	}
	done(t, fresh, open("a", f(2, 1)), onPart("a", 3, f(2, 1)))
	spentIs(t, fresh, "a", f(2, 1), f(2, 1))
	spentIs(t, a, "a", f(8, 1), f(8, 1))
}

// TestE1Asking: however often a book is asked, it stays as it is.
func TestE1Asking(t *testing.T) {
	b := filled(t)
	before := lookAt(t, b)
	for range 5 {
		b.Spent("none")
		if after := lookAt(t, b); !reflect.DeepEqual(after, before) {
			t.Errorf("asking made %v of %v", after, before)
		}
	}
}

func spoil(l []api.Entry) {
	l = l[:cap(l)]
	for i := range l {
		l[i] = api.Entry{Do: -1, Name: "spoilt", Part: -2, Loss: f(-3, -4)}
	}
}

// TestE2EntriesAreNew: whoever changes a list that was answered, its spare room too, changes neither the book nor another list, whatever is done behind it.
func TestE2EntriesAreNew(t *testing.T) {
	b := purse.New()
	var want []api.Entry
	var lists [][]api.Entry
	done(t, b, open("a", f(2, 1)))
	want = append(want, open("a", f(2, 1)))
	for k := range 20 {
		lists = append(lists, b.Entries(), b.Entries())
		spoil(lists[2*k])
		spoil(b.Entries())
		e := onPart("a", k, f(2, 1))
		done(t, b, e)
		want = append(want, e)
		if got := b.Entries(); !slices.Equal(got, want) {
			t.Fatalf("the entries are %v, not %v", got, want)
		}
	}
	for k := range 20 {
		if got := lists[2*k+1]; !slices.Equal(got, want[:k+1]) {
			t.Errorf("a list became %v, that was %v", got, want[:k+1])
		}
		for _, e := range lists[2*k][:cap(lists[2*k])] {
			if e.Do != -1 {
				t.Errorf("the book wrote %v into a list that it had answered", e)
			}
		}
	}
	spentIs(t, b, "a", f(2, 1), f(2, 1))
}

// TestE2NamesStay: a sequence tells the names of when it was asked for, also while purses are opened within it.
func TestE2NamesStay(t *testing.T) {
	b := filled(t)
	names := b.Names()
	empty := purse.New()
	none := empty.Names()
	done(t, b, open("ab", f(2, 1)))
	done(t, empty, open("a", f(2, 1)))
	for range 3 {
		var got []string
		for n := range names {
			got = append(got, n)
			b.Do(open(n+"_more", f(2, 1)))
		}
		if !slices.Equal(got, []string{"a", "b"}) {
			t.Errorf("the names are %q", got)
		}
	}
	for n := range none {
		t.Errorf("%q is told of a book that had no purses", n)
	}
	if got := namesOf(b); !slices.Equal(got, []string{"a", "a_more", "ab", "b", "b_more"}) {
		t.Errorf("the names are %q", got)
	}
}

// TestE2NamesAreKeptAlone: of a long text a piece of which is a name, the book keeps the name and nothing else.
func TestE2NamesAreKeptAlone(t *testing.T) {
	text := strings.Repeat("name", 1000)
	name := text[400:404]
	b := purse.New()
	for _, e := range []api.Entry{open(name, f(2, 1)), spend(name, f(1, 1)), onPart(name, 1, f(1, 1))} {
		done(t, b, e)
		for n := range b.Names() {
			if n != "name" || unsafe.StringData(n) == unsafe.StringData(name) {
				t.Errorf("behind %v the name %q is the one that was handed in", e, n)
			}
		}
	}
	for _, e := range b.Entries() {
		if e.Name != "name" || unsafe.StringData(e.Name) == unsafe.StringData(name) {
			t.Errorf("the name of %v is the one that was handed in", e)
		}
	}
}
