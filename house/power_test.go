package house_test

import (
	"math"
	"slices"
	"testing"

	"hushhouse/api"
	"hushhouse/house"
)

// layings are the words that are put when an entry is done, in order.
func layings(e api.Entry, at int) []put {
	out := []put{{9 * at, 0}}
	for i, w := range wordsOf(e)[1:] {
		out = append(out, put{9*at + 1 + i, w})
	}
	return append(out, put{9 * at, 1})
}

// doing is something that a house is asked, and what is done by it.
type doing struct {
	do   func(h *house.House) api.Errno
	what api.Entry
}

func doings() []doing {
	asks := func(q api.Question) func(h *house.House) api.Errno {
		return func(h *house.House) api.Errno { _, err := h.Ask(q); return err }
	}
	return []doing{
		{func(h *house.House) api.Errno { return h.Purse("new_purse", f(7, 3)) }, bookOpen("new_purse", f(7, 3))},
		{asks(question("a_purse", count(), 2, 0, 0)), spend("a_purse", f(2, 1))},
		{asks(question("a_purse", count(aged(2)), 3, 0, 0)), onPart("a_purse", 2, f(3, 1))},
	}
}

// rubbish is a disk on which everything behind some entries means nothing, but for the heads, which say that it counts.
func rubbish(records int, l ...api.Entry) *disk {
	d := newDisk(9 * records)
	for i := range d.words {
		d.words[i] = -7
		if i%9 == 0 {
			d.words[i] = 1
		}
	}
	copy(d.words, wordsOf(l...))
	return d
}

func TestH3WordsInOrder(t *testing.T) {
	for _, x := range doings() {
		d := rubbish(4, first(), bookOpen("b", f(2, 1)))
		h := opened(t, d)
		if err := x.do(h); err != api.OK {
			t.Fatalf("%v tells %d", x.what, err)
		}
		if want := layings(x.what, 2); !slices.Equal(d.puts, want) {
			t.Errorf("of %v these words were put: %v, not %v", x.what, d.puts, want)
		}
		holdEntries(t, h, first(), bookOpen("b", f(2, 1)), x.what)
		holdEntries(t, opened(t, d), first(), bookOpen("b", f(2, 1)), x.what)
	}
}

// TestH3PowerGoes: at every word of everything that is done: no other word is put, the house is broken, and the next house has the entry only if all words were put.
func TestH3PowerGoes(t *testing.T) {
	before := []api.Entry{first(), bookOpen("b", f(2, 1))}
	for _, x := range doings() {
		for left := range 10 {
			d := rubbish(4, before...)
			was := slices.Clone(d.words)
			h := opened(t, d)
			d.left = left
			if err := x.do(h); err != api.ErrPower {
				t.Errorf("%v with power for %d words tells %d", x.what, left, err)
			}
			if !slices.Equal(d.puts, layings(x.what, 2)[:left]) || d.refused != 1 || d.bad {
				t.Errorf("%v with power for %d words put %v, and tried %d more", x.what, left, d.puts, d.refused)
			}
			for i, w := range d.words {
				if (i < 18 || i >= 27) && w != was[i] {
					t.Errorf("word %d became %d", i, w)
				}
			}
			holdBroken(t, h, d)
			d.left, d.refused = -1, 0
			next := opened(t, d)
			holdEntries(t, next, before...)
			if err := x.do(next); err != api.OK {
				t.Errorf("%v of the next house tells %d", x.what, err)
			}
			holdEntries(t, next, append(slices.Clone(before), x.what)...)
			holdEntries(t, opened(t, d), append(slices.Clone(before), x.what)...)
		}
	}
}

// TestH3RecordsBehind: what lies behind the records of the book is not looked at; a record that is laid by halves over one that counted doesn't count, nor does what lies behind it.
func TestH3RecordsBehind(t *testing.T) {
	l := []api.Entry{first(), bookOpen("b", f(2, 1)), bookOpen("c", f(2, 1))}
	for left := range 11 {
		d := diskOf(wordsOf(l...)...)
		d.words[9] = 2 // the second one doesn't count any more
		h := opened(t, d)
		holdEntries(t, h, first())
		d.left = left
		want := []api.Entry{first()}
		if left == 10 {
			holdPurse(t, h, "d", f(3, 1), api.OK)
			holdEntries(t, h, first(), bookOpen("d", f(3, 1)))
			want = append(want, bookOpen("d", f(3, 1)), l[2]) // the one behind it lies there still, and counts again
		} else {
			holdPurse(t, h, "d", f(3, 1), api.ErrPower)
		}
		d.left, d.refused = -1, 0
		holdEntries(t, opened(t, d), want...)
	}
}

// TestH3NoRoom: ahead of all that the book says, and behind all else.
func TestH3NoRoom(t *testing.T) {
	for spare := range 10 {
		d := diskOf(wordsOf(first())...)
		d.words = append(d.words, make([]int64, spare)...)
		h := opened(t, d)
		room := func(e api.Errno) api.Errno {
			if spare < 9 {
				return api.ErrMuch
			}
			return e
		}
		holdPurse(t, h, "B", f(1, 2), room(api.ErrForm))
		holdPurse(t, h, "b", f(1, 2), room(api.ErrRange))
		holdPurse(t, h, "a_purse", f(2, 1), room(api.ErrName))
		holdAsk(t, h, question("none", count(), 2, 0, 0), api.Told{}, room(api.ErrName))
		holdAsk(t, h, question("a_purse", count(), 41, 0, 0), api.Told{}, room(api.ErrBudget))
		holdAsk(t, h, question("a_purse", count(), 41, 1, 0), api.Told{}, api.ErrRange)
		bad := question("a_purse", count(), 41, 0, 0)
		bad.Bits = []int{2}
		holdAsk(t, h, bad, api.Told{}, api.ErrRange)
		if len(d.puts) > 0 {
			t.Errorf("%v were put", d.puts)
		}
		holdPurse(t, h, "b", f(2, 1), room(api.OK))
		holdPurse(t, h, "c", f(2, 1), api.ErrMuch)
		if d.bad {
			t.Error("a word was asked for that the disk doesn't have")
		}
	}
}

// odd is a disk that says what is asked of it.
type odd struct{ size int }

func (o odd) Size() int           { return o.size }
func (o odd) Get(int) int64       { return -1 }
func (o odd) Put(int, int64) bool { return true }

func TestE1OddSizes(t *testing.T) {
	for _, size := range []int{math.MinInt, -9, -1, 0, 8, 9, 17, math.MaxInt} {
		h, err := house.Open(people(), odd{size})
		if err != api.OK {
			t.Fatalf("Open tells %d", err)
		}
		want := api.ErrMuch
		if size >= 9 {
			want = api.OK
		}
		holdPurse(t, h, "a", f(2, 1), want)
	}
}

// TestH3RefusedPutsNothing: what the book refuses comes nowhere near the disk, also where there is no power, and breaks nothing.
func TestH3RefusedPutsNothing(t *testing.T) {
	d := rubbish(4, first())
	h := opened(t, d)
	d.left = 0
	holdPurse(t, h, "a_purse", f(2, 1), api.ErrName)
	holdPurse(t, h, "A", f(2, 1), api.ErrForm)
	holdAsk(t, h, question("none", count(), 2, 0, 0), api.Told{}, api.ErrName)
	holdAsk(t, h, question("a_purse", count(), 41, 0, 0), api.Told{}, api.ErrBudget)
	holdAsk(t, h, question("a_purse", count(), 0, 0, 0), api.Told{}, api.ErrRange)
	if len(d.puts) > 0 || d.refused > 0 {
		t.Errorf("%v were put", d.puts)
	}
	holdEntries(t, h, first())
	holdPurse(t, h, "b", f(2, 1), api.ErrPower)
	holdBroken(t, h, d)
}
