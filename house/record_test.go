package house_test

import (
	"math"
	"slices"
	"strings"
	"testing"

	"hushhouse/api"
	"hushhouse/purse"
)

// first is the record behind which others are tried.
func first() api.Entry { return bookOpen("a_purse", f(40, 1)) }

// holdCounts tries one record behind another one, and a third one behind it, which counts only if the one between does.
func holdCounts(t *testing.T, what string, record []int64, counts bool, want api.Entry) {
	t.Helper()
	last := bookOpen("last", f(2, 1))
	words := slices.Concat(wordsOf(first()), record, wordsOf(last))
	entries := []api.Entry{first()}
	if counts {
		entries = append(entries, want, last)
	}
	d := diskOf(words...)
	got, err := opened(t, d).Entries()
	if err != api.OK || !slices.Equal(got, entries) {
		t.Errorf("%s: the entries are %v, %d, not %v", what, got, err, entries)
	}
	if !slices.Equal(d.words, words) {
		t.Errorf("%s: Open has changed the disk", what)
	}
}

func TestH1Heads(t *testing.T) {
	e := spend("a_purse", f(3, 2))
	for _, head := range []int64{0, 2, 3, -1, 256, 1 << 8, 1<<8 + 1, 1<<32 + 1, 1<<32 | 1<<31, math.MaxInt64, math.MinInt64, math.MinInt64 + 1} {
		record := wordsOf(e)
		record[0] = head
		holdCounts(t, "head", record, false, e)
	}
	holdCounts(t, "head 1", wordsOf(e), true, e)
	holdCounts(t, "nothing", make([]int64, 9), false, e)
}

// TestH1Entries: a record counts if the book can do the entry.
func TestH1Entries(t *testing.T) {
	for _, e := range []api.Entry{
		spend("a_purse", f(3, 2)), spend("a_purse", f(40, 1)), spend("a_purse", f(1, 1)), spend("a_purse", f(most, most-1)),
		onPart("a_purse", 0, f(3, 2)), onPart("a_purse", 7, f(40, 1)), onPart("a_purse", api.MaxNum, f(1, 1)),
		bookOpen("b", f(1, 1)), bookOpen("b", f(most, 1)), bookOpen("_", f(3, 2)), bookOpen("a_purs", f(2, 1)), bookOpen("a_pursee", f(2, 1)),
		bookOpen("abcdefgh", f(2, 1)), bookOpen("abcdefghi", f(2, 1)), bookOpen(strings.Repeat("abcdefgh", 2), f(2, 1)),
		bookOpen(strings.Repeat("z", 31), f(2, 1)), bookOpen(strings.Repeat("abcdefgh", 4), f(2, 1)),
	} {
		holdCounts(t, "right", wordsOf(e), true, e)
	}
	for _, e := range []api.Entry{
		spend("a_purse", f(81, 2)), spend("a_purse", f(most, 1)), spend("a_purse", f(2, 2)), spend("a_purse", f(1, 2)), spend("a_purse", f(0, 1)),
		spend("a_purse", f(1, 0)), spend("a_purse", f(-3, -2)), spend("a_purse", f(most+1, 1)), spend("b", f(1, 1)), spend("", f(1, 1)),
		onPart("a_purse", -1, f(1, 1)), onPart("a_purse", api.MaxNum+1, f(1, 1)), onPart("a_purse", math.MinInt, f(1, 1)), onPart("a_purse", 1, f(41, 1)), onPart("b", 1, f(1, 1)),
		bookOpen("a_purse", f(2, 1)), bookOpen("", f(2, 1)), bookOpen("A", f(2, 1)), bookOpen("a b", f(2, 1)), bookOpen("é", f(2, 1)), bookOpen("\xff", f(2, 1)), bookOpen("b", f(1, 2)),
		bookOpen("b1", f(2, 1)), bookOpen("b", f(4, 2)), bookOpen(strings.Repeat("\xff", 32), f(2, 1)),
		{Do: 0, Name: "a_purse", Loss: f(1, 1)}, {Do: 4, Name: "a_purse", Loss: f(1, 1)}, {Do: -1, Name: "a_purse", Loss: f(1, 1)},
		{Do: 1<<32 + 2, Name: "a_purse", Loss: f(1, 1)}, {Do: math.MinInt + 2, Name: "a_purse", Loss: f(1, 1)},
		{Do: 2, Name: "a_purse", Loss: f(1<<32+1, 1)}, {Do: 2, Name: "a_purse", Loss: f(1, 1<<32+1)}, {Do: 2, Name: "a_purse", Loss: f(1, math.MinInt+1)},
	} {
		holdCounts(t, "wrong", wordsOf(e), false, e)
	}
}

// TestH1PartsThatSayNothing: of what is no BookPart any number may stand there; the entry has none of it.
func TestH1PartsThatSayNothing(t *testing.T) {
	for _, part := range []int64{1, -1, 7, api.MaxNum, api.MaxNum + 1, 1 << 32, math.MaxInt64, math.MinInt64} {
		for _, e := range []api.Entry{spend("a_purse", f(3, 2)), bookOpen("b", f(3, 2))} {
			record := wordsOf(e)
			record[2] = part
			holdCounts(t, "part", record, true, e)
		}
		e := onPart("a_purse", int(part), f(3, 2))
		holdCounts(t, "part of a BookPart", wordsOf(e), part >= 0 && part <= api.MaxNum, e)
	}
}

// TestH1NoughtsInNames: the name is all bytes that are not nought, and they must stand where they stand in that name's record.
func TestH1NoughtsInNames(t *testing.T) {
	for _, name := range []string{
		"\x00b", "b\x00c", "b\x00\x00\x00\x00\x00\x00\x00c", "abcdefgh\x00i", "abcdefg\x00h", "\x00\x00\x00\x00\x00\x00\x00\x00b",
		strings.Repeat("\x00", 31) + "b", "b" + strings.Repeat("\x00", 30) + "c", "\x00a_purs", strings.Repeat("\x00", 32),
	} {
		e := bookOpen(name, f(2, 1))
		holdCounts(t, "noughts", wordsOf(e), false, e)
	}
	// Of a purse that is there: what would be spent has the right name, but not its words.
	for _, name := range []string{"a_purs\x00e", "\x00a_purse", "a_purse\x00\x00\x00\x00\x00\x00\x00\x00\x00\x00\x00\x00\x00\x00\x00\x00\x00\x00\x00\x00\x00\x00\x00\x00b"} {
		e := spend(name, f(2, 1))
		holdCounts(t, "noughts", wordsOf(e), false, e)
	}
	e := spend("a_purse\x00\x00", f(2, 1)) // those behind a name are the record's own
	holdCounts(t, "noughts behind", wordsOf(e), true, spend("a_purse", f(2, 1)))
}

// TestH1EveryBit: whichever bit of a record is turned, but for those of a Part that says nothing, it is another record, or none.
func TestH1EveryBit(t *testing.T) {
	for _, e := range []api.Entry{spend("a_purse", f(3, 2)), onPart("a_purse", 5, f(3, 2)), bookOpen("b", f(3, 2))} {
		for word := range 9 {
			for bit := range 64 {
				record := wordsOf(e)
				record[word] ^= int64(uint64(1) << bit)
				got, err := opened(t, diskOf(slices.Concat(wordsOf(first()), record)...)).Entries()
				if err != api.OK || len(got) < 1 || got[0] != first() {
					t.Fatalf("the entries are %v, %d", got, err)
				}
				free := word == 2 && e.Do != api.BookPart
				if same := len(got) == 2 && got[1] == e; same != free {
					t.Errorf("with bit %d of word %d turned the entries are %v", bit, word, got)
				}
				if len(got) == 2 && !free && !slices.Equal(wordsOf(got[1]), record) && got[1].Do == api.BookPart {
					t.Errorf("the entry %v has not the words %v", got[1], record)
				}
			}
		}
	}
}

// TestH1BehindThoseAhead: whether a record counts hangs on those ahead of it.
func TestH1BehindThoseAhead(t *testing.T) {
	l := []api.Entry{bookOpen("a", f(12, 1)), spend("a", f(3, 2)), onPart("a", 1, f(4, 1)), onPart("a", 2, f(8, 1)), onPart("a", 1, f(2, 1))}
	holdEntries(t, opened(t, diskOf(wordsOf(l...)...)), l...)
	over := append(slices.Clone(l), onPart("a", 2, f(2, 1)), bookOpen("b", f(2, 1)))
	holdEntries(t, opened(t, diskOf(wordsOf(over...)...)), l...)
	turned := []api.Entry{spend("a", f(3, 2)), bookOpen("a", f(12, 1))}
	holdEntries(t, opened(t, diskOf(wordsOf(turned...)...)))
	twice := []api.Entry{bookOpen("a", f(12, 1)), bookOpen("a", f(12, 1)), spend("a", f(3, 2))}
	holdEntries(t, opened(t, diskOf(wordsOf(twice...)...)), twice[0])
}

// TestH2Fits: a record that does not fit on the disk is not read, not even the words of it that are there.
func TestH2Fits(t *testing.T) {
	l := []api.Entry{bookOpen("a", f(12, 1)), bookOpen("b", f(12, 1)), bookOpen("c", f(12, 1))}
	for size := range 28 {
		d := diskOf(wordsOf(l...)[:size]...)
		h := opened(t, d)
		holdEntries(t, h, l[:size/9]...)
		holdPurse(t, h, "d", f(2, 1), api.ErrMuch)
	}
}

// TestH2MaxEntries: a book has no more, however many records there are, and however much room.
func TestH2MaxEntries(t *testing.T) {
	l := []api.Entry{bookOpen("a", f(12, 1))}
	for len(l) < api.MaxEntries+2 {
		l = append(l, []api.Entry{spend("a", f(1, 1)), onPart("a", len(l)%60, f(1, 1))}[len(l)%2])
	}
	h := opened(t, diskOf(wordsOf(l...)...))
	holdEntries(t, h, l[:api.MaxEntries]...)
	holdPurse(t, h, "b", f(2, 1), api.ErrMuch)
	holdPurse(t, h, "B", f(2, 1), api.ErrForm) // there is room: the book speaks, and tells that first
	holdAsk(t, h, question("a", count(), 1, 0, 0), api.Told{}, api.ErrMuch)

	d := diskOf(wordsOf(l[:api.MaxEntries-1]...)...)
	d.words = append(d.words, make([]int64, 18)...)
	h = opened(t, d)
	holdAsk(t, h, question("a", count(), 1, 0, 0), api.Told{Values: []int{0}, Lost: f(1, 1)}, api.OK)
	holdAsk(t, h, question("a", count(), 1, 0, 0), api.Told{}, api.ErrMuch)
	if len(d.puts) != 10 {
		t.Errorf("%d words were put", len(d.puts))
	}
}

// TestH1AsABookSays: all kinds of entries, laid behind one another on a disk, are those that a book does, up to the first one that it does not.
func TestH1AsABookSays(t *testing.T) {
	pool := []api.Entry{
		bookOpen("a", f(12, 1)), bookOpen("b", f(5, 2)), spend("a", f(3, 2)), spend("b", f(3, 2)), onPart("a", 0, f(2, 1)), onPart("a", 1, f(3, 1)),
		onPart("b", 1, f(5, 2)), spend("a", f(1, 1)), onPart("b", -1, f(1, 1)), bookOpen("B", f(1, 1)),
	}
	turn := uint32(1)
	for range 3000 {
		var l []api.Entry
		for range 7 {
			turn = turn*1664525 + 1013904223
			l = append(l, pool[int(turn>>16)%len(pool)])
		}
		if l[0].Do != api.BookOpen {
			l[0] = pool[0]
		}
		b := purse.New()
		for _, e := range l {
			if b.Do(e) != api.OK {
				break
			}
		}
		holdEntries(t, opened(t, diskOf(wordsOf(l...)...)), b.Entries()...)
	}
}
