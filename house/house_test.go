package house_test

import (
	"math"
	"slices"
	"strings"
	"testing"

	"hushhouse/api"
	"hushhouse/house"
	"hushhouse/rows"
)

const most = api.MaxPart

func f(up, down int) api.Ratio { return api.Ratio{Up: up, Down: down} }

// put is a word that came onto a disk.
type put struct {
	at   int
	word int64
}

// disk is one whose power may go: so many words can be put yet (left below 0: any number). It remembers what was put, what could not be, and whether a word was asked for that it does not have.
type disk struct {
	words   []int64
	left    int
	puts    []put
	refused int
	bad     bool
}

func newDisk(words int) *disk { return &disk{words: make([]int64, words), left: -1} }

// diskOf has these words, and nothing behind them.
func diskOf(words ...int64) *disk { return &disk{words: slices.Clone(words), left: -1} }

func (d *disk) Size() int { return len(d.words) }

func (d *disk) Get(i int) int64 {
	if i < 0 || i >= len(d.words) {
		d.bad = true
		return 0
	}
	return d.words[i]
}

func (d *disk) Put(i int, w int64) bool {
	if i < 0 || i >= len(d.words) {
		d.bad = true
		return false
	}
	if d.left == 0 {
		d.refused++
		return false
	}
	d.left--
	d.words[i] = w
	d.puts = append(d.puts, put{i, w})
	return true
}

// people are three rows of two columns.
func people() api.Table {
	return api.Table{Columns: []api.Column{{Name: "age", Size: 4}, {Name: "sex", Size: 2}}, Rows: [][]int{{3, 1}, {0, 0}, {2, 1}}}
}

func opened(t *testing.T, d *disk) *house.House {
	t.Helper()
	puts := len(d.puts)
	h, err := house.Open(people(), d)
	if h == nil || err != api.OK {
		t.Fatalf("Open tells %d", err)
	}
	if len(d.puts) != puts || d.refused > 0 || d.bad {
		t.Fatalf("Open has put words onto the disk, or asked for some that it doesn't have")
	}
	return h
}

func holdEntries(t *testing.T, h *house.House, want ...api.Entry) {
	t.Helper()
	got, err := h.Entries()
	if err != api.OK || !slices.Equal(got, want) {
		t.Errorf("the entries are %v, %d, not %v", got, err, want)
	}
}

func holdPurse(t *testing.T, h *house.House, name string, budget api.Ratio, want api.Errno) {
	t.Helper()
	if err := h.Purse(name, budget); err != want {
		t.Errorf("Purse(%q, %v) tells %d, not %d", name, budget, err, want)
	}
}

func holdAsk(t *testing.T, h *house.House, q api.Question, want api.Told, werr api.Errno) {
	t.Helper()
	got, err := h.Ask(q)
	if err != werr || !slices.Equal(got.Values, want.Values) || got.Bits != want.Bits || got.Lost != want.Lost {
		t.Errorf("Ask(%v) is %v, %d, not %v, %d", q, got, err, want, werr)
	}
}

// holdBroken: a broken house tells ErrState and nothing else, whatever it is asked, and puts nothing.
func holdBroken(t *testing.T, h *house.House, d *disk) {
	t.Helper()
	left := d.left
	d.left = -1 // the power comes back, and the house stays broken
	puts := len(d.puts)
	for range 2 {
		holdPurse(t, h, "another", f(2, 1), api.ErrState)
		holdPurse(t, h, "?", f(2, 4), api.ErrState)
		holdAsk(t, h, question("a", count(), 1, 0, 1), api.Told{}, api.ErrState)
		holdAsk(t, h, api.Question{Bits: []int{2}}, api.Told{}, api.ErrState)
		if l, err := h.Entries(); len(l) > 0 || err != api.ErrState {
			t.Errorf("a broken house has the entries %v, %d", l, err)
		}
	}
	if len(d.puts) != puts || d.bad {
		t.Errorf("a broken house has put words")
	}
	d.left = left
}

func bookOpen(name string, budget api.Ratio) api.Entry {
	return api.Entry{Do: api.BookOpen, Name: name, Loss: budget}
}

func spend(name string, loss api.Ratio) api.Entry {
	return api.Entry{Do: api.BookSpend, Name: name, Loss: loss}
}

func onPart(name string, part int, loss api.Ratio) api.Entry {
	return api.Entry{Do: api.BookPart, Name: name, Part: part, Loss: loss}
}

// wordsOf are records, as the document says them, byte by byte.
func wordsOf(l ...api.Entry) []int64 {
	var out []int64
	for _, e := range l {
		out = append(out, 1, int64(e.Do), int64(e.Part), int64(e.Loss.Up), int64(e.Loss.Down))
		name := e.Name + strings.Repeat("\x00", 32-len(e.Name))
		for len(name) > 0 {
			var w uint64
			for _, b := range []byte(name[:8]) {
				w = w*256 + uint64(b)
			}
			out, name = append(out, int64(w)), name[8:]
		}
	}
	return out
}

func TestH2OpenTellsWhatIsWrongWithTheTable(t *testing.T) {
	many := people()
	many.Rows = make([][]int, api.MaxRows+1)
	short, far := people(), people()
	short.Rows[1], far.Rows[2] = []int{1}, []int{4, 0}
	for _, x := range []api.Table{{}, {Rows: [][]int{{1}}}, {Columns: []api.Column{{Name: "A", Size: 1}}}, {Columns: []api.Column{{Name: "a"}}}, many, short, far} {
		want := rows.Wrong(x)
		for _, d := range []*disk{newDisk(0), newDisk(40), diskOf(wordsOf(bookOpen("a", f(2, 1)))...)} {
			h, err := house.Open(x, d)
			if h != nil || err != want || err == api.OK {
				t.Errorf("Open tells %v, %d, not %d", h, err, want)
			}
			if len(d.puts) > 0 || d.bad {
				t.Errorf("a house that was not opened has put words")
			}
		}
		if h, err := house.Open(x, nil); h != nil || err != want {
			t.Errorf("Open without a disk tells %v, %d, not %d", h, err, want)
		}
	}
}

func TestH2OpenEmpty(t *testing.T) {
	for size := range 40 {
		holdEntries(t, opened(t, newDisk(size)))
	}
}

// TestH2OpenRemembers: the next house has what the one ahead did, and goes on behind it.
func TestH2OpenRemembers(t *testing.T) {
	d := newDisk(9 * 8)
	var want []api.Entry
	for _, name := range []string{"a", "b", "a_purse", "z", strings.Repeat("long", 8), "_"} {
		h := opened(t, d)
		holdEntries(t, h, want...)
		holdPurse(t, h, name, f(9, 2), api.OK)
		want = append(want, bookOpen(name, f(9, 2)))
		holdEntries(t, h, want...)
		holdPurse(t, h, name, f(9, 2), api.ErrName)
	}
	holdEntries(t, opened(t, d), want...)
	if got := append(wordsOf(want...), make([]int64, 18)...); !slices.Equal(d.words, got) {
		t.Errorf("the disk has %v, not %v", d.words, got)
	}
}

// TestH2SpentIsRemembered: what was paid is paid in the next house, too.
func TestH2SpentIsRemembered(t *testing.T) {
	d := newDisk(9 * 20)
	holdPurse(t, opened(t, d), "a", f(9, 1), api.OK)
	zero := api.Told{Values: []int{0}, Lost: f(2, 1)}
	for range 3 {
		holdAsk(t, opened(t, d), question("a", count(), 2, 0, 0), zero, api.OK)
	}
	holdAsk(t, opened(t, d), question("a", count(), 2, 0, 0), api.Told{}, api.ErrBudget)
	holdEntries(t, opened(t, d), bookOpen("a", f(9, 1)), spend("a", f(2, 1)), spend("a", f(2, 1)), spend("a", f(2, 1)))
}

func TestH4Purse(t *testing.T) {
	d := newDisk(9 * 100)
	h := opened(t, d)
	for _, x := range []struct {
		name   string
		budget api.Ratio
		err    api.Errno
	}{
		{"a_purse", f(40, 1), api.OK},
		{"a_purse", f(4, 1), api.ErrName},
		{"B", f(4, 1), api.ErrForm},
		{"", f(4, 1), api.ErrForm},
		{"b\x00", f(4, 1), api.ErrForm},
		{strings.Repeat("b", 33), f(4, 1), api.ErrForm},
		{strings.Repeat("b", 3300), f(4, 1), api.ErrForm},
		{strings.Repeat("b", 32), f(1, 1), api.OK},
		{"b", f(4, 2), api.ErrForm},
		{"b", f(0, 0), api.ErrForm},
		{"b", f(math.MinInt, -1), api.ErrForm},
		{"b", f(0, 1), api.ErrRange},
		{"b", f(1, 2), api.ErrRange},
		{"a_purse", f(1, 2), api.ErrRange},
		{"b", f(most, most-1), api.OK},
	} {
		puts := len(d.puts)
		holdPurse(t, h, x.name, x.budget, x.err)
		if grown := len(d.puts) > puts; grown != (x.err == api.OK) {
			t.Errorf("Purse(%q, %v), which tells %d, has put words: %v", x.name, x.budget, x.err, grown)
		}
	}
	holdEntries(t, h, bookOpen("a_purse", f(40, 1)), bookOpen(strings.Repeat("b", 32), f(1, 1)), bookOpen("b", f(most, most-1)))
}

func TestH4MaxPurses(t *testing.T) {
	d := newDisk(9 * (api.MaxPurses + 1))
	h := opened(t, d)
	var want []api.Entry
	for i := range api.MaxPurses {
		name := strings.Repeat(string(rune('a'+i%26)), 1+i/26)
		holdPurse(t, h, name, f(2, 1), api.OK)
		want = append(want, bookOpen(name, f(2, 1)))
	}
	holdPurse(t, h, "one_more", f(2, 1), api.ErrMany)
	h = opened(t, d)
	holdEntries(t, h, want...)
	holdPurse(t, h, "one_more", f(2, 1), api.ErrMany)
	if d.bad {
		t.Error("a word was asked for that the disk doesn't have")
	}
}

// TestE1NoDisk: a house that was given no disk has no room for anything.
func TestE1NoDisk(t *testing.T) {
	h, err := house.Open(people(), nil)
	if h == nil || err != api.OK {
		t.Fatalf("Open tells %d", err)
	}
	holdPurse(t, h, "a", f(2, 1), api.ErrMuch)
	holdAsk(t, h, question("a", count(), 2, 0, 0), api.Told{}, api.ErrMuch)
	holdEntries(t, h)
}
