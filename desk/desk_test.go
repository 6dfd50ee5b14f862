package desk_test

import (
	"math"
	"slices"
	"strings"
	"testing"

	"hushhouse/api"
	"hushhouse/desk"
	"hushhouse/house"
	"hushhouse/rows"
	"hushhouse/wire"
)

func f(up, down int) api.Ratio { return api.Ratio{Up: up, Down: down} }

// put is a word that came onto a disk.
type put struct {
	at   int
	word int64
}

// disk is one whose power may go: so many words can be put yet (left below 0: any number). It remembers what was put, what could not be, and whether a word was asked for that it does not have.
type disk struct {
	words   []int64
	left    int
	puts    []put
	refused int
	bad     bool
}

func newDisk(words int) *disk { return &disk{words: make([]int64, words), left: -1} }

func (d *disk) Size() int { return len(d.words) }

func (d *disk) Get(i int) int64 {
	if i < 0 || i >= len(d.words) {
		d.bad = true
		return 0
	}
	return d.words[i]
}

func (d *disk) Put(i int, w int64) bool {
	if i < 0 || i >= len(d.words) {
		d.bad = true
		return false
	}
	if d.left == 0 {
		d.refused++
		return false
	}
	d.left--
	d.words[i] = w
	d.puts = append(d.puts, put{i, w})
	return true
}

// people are three rows of two columns.
func people() api.Table {
	return api.Table{Columns: []api.Column{{Name: "age", Size: 4}, {Name: "sex", Size: 2}}, Rows: [][]int{{3, 1}, {0, 0}, {2, 1}}}
}

func opened(t *testing.T, d *disk) *desk.Desk {
	t.Helper()
	puts := len(d.puts)
	k, err := desk.Open(people(), d)
	if k == nil || err != api.OK {
		t.Fatalf("Open tells %d", err)
	}
	if len(d.puts) != puts || d.refused > 0 || d.bad {
		t.Fatalf("Open has put words onto the disk, or asked for some that it doesn't have")
	}
	return k
}

// rich is a desk with much room, and with a purse of all that a purse may have.
func rich(t *testing.T) (*desk.Desk, *disk) {
	t.Helper()
	d := newDisk(3000)
	k := opened(t, d)
	holdPurse(t, k, "p", f(api.MaxPart, 1), api.OK)
	d.puts = nil
	return k, d
}

// asking is a message that is answered with the bit 0 by a value at the range's end.
func asking(session string, number int) api.Message {
	return api.Message{Kind: api.MessageAsk, Session: session, Number: number, Purse: "p", Text: "count", R: f(2, 1), High: 3}
}

func saying(session string, number int, text string) api.Message {
	m := asking(session, number)
	m.Text = text
	return m
}

// ages asks for four places, each of which the bit 0 tells as it is.
func ages(session string, number int) api.Message {
	m := saying(session, number, "bins age")
	m.High = 1
	return m
}

func replied(session string, number int, lost api.Ratio, values ...int) api.Message {
	return api.Message{Kind: api.MessageReply, Session: session, Number: number, Values: values, Lost: lost}
}

func refused(session string, number int, err api.Errno) api.Message {
	return api.Message{Kind: api.MessageReply, Session: session, Number: number, Err: err}
}

func equal(a, b api.Message) bool {
	values := slices.Equal(a.Values, b.Values)
	return values && a.Kind == b.Kind && a.Session == b.Session && a.Number == b.Number && a.Purse == b.Purse && a.Text == b.Text &&
		a.R == b.R && a.Low == b.Low && a.High == b.High && a.Err == b.Err && a.Lost == b.Lost
}

func holdPurse(t *testing.T, k *desk.Desk, name string, budget api.Ratio, want api.Errno) {
	t.Helper()
	if err := k.Purse(name, budget); err != want {
		t.Errorf("Purse(%q, %v) tells %d, not %d", name, budget, err, want)
	}
}

func hold(t *testing.T, k *desk.Desk, m api.Message, bits []int, want api.Message) {
	t.Helper()
	if got, err := k.Tell(m, bits); err != api.OK || !equal(got, want) {
		t.Errorf("Tell(%v, %v) is %v, %d, not %v", m, bits, got, err, want)
	}
}

func holdErr(t *testing.T, k *desk.Desk, m api.Message, bits []int, want api.Errno) {
	t.Helper()
	if got, err := k.Tell(m, bits); err != want || !equal(got, api.Message{}) {
		t.Errorf("Tell(%v) is %v, %d, not %d", m, got, err, want)
	}
}

func holdBytes(t *testing.T, k *desk.Desk, b string, bits []int, want string, werr api.Errno) {
	t.Helper()
	if got, err := k.Bytes(b, bits); err != werr || got != want {
		t.Errorf("Bytes(%q) is %q, %d, not %q, %d", b, got, err, want, werr)
	}
}

func packed(t *testing.T, m api.Message) string {
	t.Helper()
	b, err := wire.Pack(m)
	if err != api.OK {
		t.Fatalf("Pack(%v) tells %d", m, err)
	}
	return b
}

// paid are the entries of a house on the first half of a disk.
func paid(t *testing.T, d *disk) []api.Entry {
	t.Helper()
	h, err := house.Open(people(), &disk{words: d.words[:len(d.words)/2], left: -1})
	if err != api.OK {
		t.Fatalf("Open of the house tells %d", err)
	}
	l, _ := h.Entries()
	return l
}

func holdPaid(t *testing.T, d *disk, want ...api.Entry) {
	t.Helper()
	if got := paid(t, d); !slices.Equal(got, want) {
		t.Errorf("paid is %v, not %v", got, want)
	}
}

func bookOpen(name string, budget api.Ratio) api.Entry {
	return api.Entry{Do: api.BookOpen, Name: name, Loss: budget}
}

func spend(name string, loss api.Ratio) api.Entry {
	return api.Entry{Do: api.BookSpend, Name: name, Loss: loss}
}

// wordsOf are records of bytes, as the document says them, byte by byte.
func wordsOf(l ...string) []int64 {
	var out []int64
	for _, b := range l {
		out = append(out, 1, int64(len(b)))
		for len(b) > 0 {
			var w uint64
			for i := range 8 {
				w *= 256
				if i < len(b) {
					w += uint64(b[i])
				}
			}
			out, b = append(out, int64(w)), b[min(8, len(b)):]
		}
	}
	return out
}

// replyWords are the records of replies.
func replyWords(t *testing.T, l ...api.Message) []int64 {
	t.Helper()
	var out []string
	for _, m := range l {
		out = append(out, packed(t, m))
	}
	return wordsOf(out...)
}

func TestZ2OpenTellsWhatTheHouseSays(t *testing.T) {
	many := people()
	many.Rows = make([][]int, api.MaxRows+1)
	short, far := people(), people()
	short.Rows[1], far.Rows[2] = []int{1}, []int{4, 0}
	for _, x := range []api.Table{{}, {Rows: [][]int{{1}}}, {Columns: []api.Column{{Name: "A", Size: 1}}}, {Columns: []api.Column{{Name: "a"}}}, many, short, far} {
		want := rows.Wrong(x)
		for _, size := range []int{0, 1, 40, 400} {
			d := newDisk(size)
			if k, err := desk.Open(x, d); k != nil || err != want || err == api.OK || len(d.puts) > 0 || d.bad {
				t.Errorf("Open tells %v, %d, not %d", k, err, want)
			}
		}
		if k, err := desk.Open(x, nil); k != nil || err != want {
			t.Errorf("Open without a disk tells %v, %d, not %d", k, err, want)
		}
	}
}

// TestZ1Halves: where the house's half ends, and how many words the desk's has.
func TestZ1Halves(t *testing.T) {
	for size := range 420 {
		d := newDisk(size)
		k := opened(t, d)
		for i := range 30 {
			want := api.OK
			if 9*(i+1) > size/2 {
				want = api.ErrMuch
			}
			holdPurse(t, k, strings.Repeat("p", i+1), f(2, 1), want)
		}
		for i := range size/2 - 9*min(30, size/18) {
			if at := size/2 - 1 - i; d.words[at] != 0 {
				t.Fatalf("of %d words word %d is %d", size, at, d.words[at])
			}
		}
		left, number := size-size/2, 0
		for left >= 92 {
			number++
			hold(t, k, saying("s", number, "?"), nil, refused("s", number, api.ErrForm))
			left -= 3
		}
		holdErr(t, k, saying("s", number+1, "?"), nil, api.ErrMuch)
		if d.bad {
			t.Fatalf("of %d words one was asked for that there isn't", size)
		}
	}
}

func TestZ1Words(t *testing.T) {
	for _, size := range []int{260, 261} {
		d := newDisk(size)
		k := opened(t, d)
		holdPurse(t, k, "p", f(40, 1), api.OK)
		d.puts = nil
		hold(t, k, asking("s", 1), []int{0}, replied("s", 1, f(2, 1), 3))
		hold(t, k, saying("s", 2, "hello"), []int{0}, refused("s", 2, api.ErrForm))
		hold(t, k, asking("longer_than_the_others", 1), nil, refused("longer_than_the_others", 1, api.ErrNone))
		want := []int64{
			1, 9, 0x0201730200010604, 0x0200000000000000,
			1, 8, 0x0201730404000000,
			1, 29, 0x02166c6f6e676572, 0x5f7468616e5f7468, 0x655f6f7468657273, 0x020c000000000000,
		}
		if got := d.words[130 : 130+len(want)]; !slices.Equal(got, want) {
			t.Errorf("the half has %x, not %x", got, want)
		}
		for i, w := range d.words[130+len(want):] {
			if w != 0 {
				t.Errorf("word %d behind the replies is %d", i, w)
			}
		}
		holdPaid(t, d, bookOpen("p", f(40, 1)), spend("p", f(2, 1)), spend("p", f(2, 1)))
	}
}

// TestZ2Remembers: the next desk knows what the one ahead replied, and goes on behind it.
func TestZ2Remembers(t *testing.T) {
	d := newDisk(2000)
	holdPurse(t, opened(t, d), "p", f(api.MaxPart, 1), api.OK)
	var want []api.Message
	for number := 1; number <= 5; number++ {
		for _, session := range []string{"a", "b", "_", strings.Repeat("long", 8)} {
			k := opened(t, d)
			r := replied(session, number, f(2, 1), 3)
			switch number {
			case 2:
				r = refused(session, number, api.ErrName)
				hold(t, k, saying(session, number, "bins none"), []int{0}, r)
			case 4:
				r = replied(session, number, f(2, 1), 1, 0, 1, 1)
				hold(t, k, ages(session, number), make([]int, 4), r)
			default:
				hold(t, k, asking(session, number), []int{0}, r)
			}
			want = append(want, r)
		}
	}
	if got, all := d.words[1000:], replyWords(t, want...); !slices.Equal(got[:len(all)], all) {
		t.Errorf("the half has %x, not %x", got[:len(all)], all)
	}
	before := slices.Clone(d.words)
	k := opened(t, d)
	for _, r := range want[len(want)-4:] {
		hold(t, k, asking(r.Session, 5), nil, r)
		for number := 1; number < 5; number++ {
			holdErr(t, k, asking(r.Session, number), nil, api.ErrNone)
		}
		holdErr(t, k, asking(r.Session, 7), nil, api.ErrRange)
	}
	if !slices.Equal(d.words, before) {
		t.Errorf("what was asked again came onto the disk again")
	}
}

func TestZ3PurseSaysWhatTheHouseSays(t *testing.T) {
	d := newDisk(2 * 9 * 70)
	k, h := opened(t, d), &disk{words: make([]int64, 9*70), left: -1}
	other, _ := house.Open(people(), h)
	for _, x := range []struct {
		name   string
		budget api.Ratio
		err    api.Errno
	}{
		{"p", f(40, 1), api.OK}, {"p", f(40, 1), api.ErrName}, {"P", f(4, 1), api.ErrForm}, {"", f(4, 1), api.ErrForm}, {"q", f(4, 2), api.ErrForm},
		{"q", f(1, 2), api.ErrRange}, {"q", f(math.MinInt, -1), api.ErrForm}, {strings.Repeat("q", 33), f(2, 1), api.ErrForm}, {strings.Repeat("q", 32), f(2, 1), api.OK},
	} {
		holdPurse(t, k, x.name, x.budget, x.err)
		if err := other.Purse(x.name, x.budget); err != x.err || !slices.Equal(d.words[:9*70], h.words) {
			t.Errorf("the house tells %d of %q, %v", err, x.name, x.budget)
		}
	}
	for i := range 70 {
		name := strings.Repeat("r", i%32+1) + "_" + string(rune('a'+i/32))
		if len(name) <= 32 {
			holdPurse(t, k, name, f(2, 1), other.Purse(name, f(2, 1)))
		}
	}
	if !slices.Equal(d.words[:9*70], h.words) {
		t.Errorf("the first half is not the house's disk")
	}
}

// TestE1NoDisk: a desk that was given no disk has no room for anything.
func TestE1NoDisk(t *testing.T) {
	k, err := desk.Open(people(), nil)
	if k == nil || err != api.OK {
		t.Fatalf("Open tells %d", err)
	}
	holdPurse(t, k, "p", f(2, 1), api.ErrMuch)
	holdErr(t, k, asking("s", 1), nil, api.ErrMuch)
	holdErr(t, k, asking("s", 2), nil, api.ErrRange)
	holdBytes(t, k, packed(t, asking("s", 1)), nil, "", api.ErrMuch)
}

// odd is a disk that says what is asked of it.
type odd struct{ size int }

func (o odd) Size() int           { return o.size }
func (o odd) Get(int) int64       { return -1 }
func (o odd) Put(int, int64) bool { return true }

func TestE1OddSizes(t *testing.T) {
	for _, size := range []int{math.MinInt, -400, -9, -1, 0, 1, 17, 18, 182, 183, math.MaxInt} {
		k, err := desk.Open(people(), odd{size})
		if err != api.OK {
			t.Fatalf("Open tells %d", err)
		}
		want := api.ErrMuch
		if size >= 18 {
			want = api.OK
		}
		holdPurse(t, k, "p", f(2, 1), want)
		if size >= 183 {
			hold(t, k, asking("s", 1), []int{0}, replied("s", 1, f(2, 1), 3))
		} else {
			holdErr(t, k, asking("s", 1), []int{0}, api.ErrMuch)
		}
	}
}
