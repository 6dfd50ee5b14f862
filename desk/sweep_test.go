package desk_test

import (
	"slices"
	"strconv"
	"strings"
	"testing"

	"hushhouse/api"
	"hushhouse/ask"
	"hushhouse/desk"
	"hushhouse/house"
	"hushhouse/rows"
	"hushhouse/speech"
	"hushhouse/wire"
)

// lot is numbers that look as if they came by lot, the same ones each time.
type lot uint64

func (l *lot) below(n int) int {
	*l = *l*6364136223846793005 + 1442695040888963407
	return int(uint64(*l) >> 33 % uint64(n))
}

func (l *lot) bits() []int {
	out := make([]int, l.below(14))
	for i := range out {
		out[i] = l.below(2)
	}
	return out
}

// power is how many words can be put yet (below 0: any number), on two disks together.
type power struct{ left int }

// piece is a disk of its own that shares its power with another one.
type piece struct {
	words []int64
	*power
}

func (p piece) Size() int       { return len(p.words) }
func (p piece) Get(i int) int64 { return p.words[i] }

func (p piece) Put(i int, w int64) bool {
	if p.left == 0 {
		return false
	}
	p.left--
	p.words[i] = w
	return true
}

// slow is a desk with two disks, which has all replies in a list, and looks for each one in it.
type slow struct {
	front, back piece
	house       *house.House
	list        []api.Message
	end         int
	broken      bool
}

func newSlow(words int) *slow {
	p := &power{-1}
	s := &slow{front: piece{make([]int64, words/2), p}, back: piece{make([]int64, (words+1)/2), p}}
	s.open()
	return s
}

func (s *slow) open() {
	s.broken = false
	s.house, _ = house.Open(people(), s.front)
	s.list, s.end = slowly(s.back.words)
}

func (s *slow) purse(name string, budget api.Ratio) api.Errno {
	if s.broken {
		return api.ErrState
	}
	err := s.house.Purse(name, budget)
	s.broken = err == api.ErrPower
	return err
}

func (s *slow) tell(m api.Message, bits []int) (api.Message, api.Errno) {
	_, err := wire.Pack(m)
	switch {
	case s.broken:
		return api.Message{}, api.ErrState
	case m.Kind != api.MessageAsk:
		return api.Message{}, api.ErrKind
	case err != api.OK:
		return api.Message{}, err
	case len(m.Session) < 1 || len(m.Session) > 32 || strings.Trim(m.Session, "abcdefghijklmnopqrstuvwxyz_") != "" || m.Number < 1:
		return api.Message{}, api.ErrForm
	}
	last := api.Message{}
	for _, r := range s.list {
		if r.Session == m.Session {
			last = r
		}
	}
	switch {
	case m.Number == last.Number:
		return last, api.OK
	case m.Number < last.Number:
		return api.Message{}, api.ErrNone
	case m.Number > last.Number+1:
		return api.Message{}, api.ErrRange
	case len(s.back.words)-s.end < 92:
		return api.Message{}, api.ErrMuch
	}
	told, err := s.ask(m, bits)
	if err == api.ErrPower || !s.lay(api.Message{Kind: 2, Session: m.Session, Number: m.Number, Err: err, Values: told.Values, Lost: told.Lost}) {
		s.broken = true
		return api.Message{}, api.ErrPower
	}
	return s.list[len(s.list)-1], api.OK
}

func (s *slow) ask(m api.Message, bits []int) (api.Told, api.Errno) {
	a, fault := speech.Read(m.Text)
	if fault.Err != api.OK {
		return api.Told{}, fault.Err
	}
	bound, err := ask.Type(people().Columns, a)
	if err == api.OK && bound.Places > 64 {
		err = api.ErrMuch
	}
	if err != api.OK {
		return api.Told{}, err
	}
	return s.house.Ask(api.Question{Purse: m.Purse, Ask: a, R: m.R, Low: m.Low, High: m.High, Bits: bits})
}

func (s *slow) lay(r api.Message) bool {
	b, _ := wire.Pack(r)
	words := wordsOf(b)
	for _, p := range layings(s.end, words) {
		if !s.back.Put(p.at, p.word) {
			return false
		}
	}
	s.list = append(s.list, r)
	s.end += len(words)
	return true
}

// message is one that may be anything, but often one that comes next, or came last.
func (l *lot) message(s *slow) api.Message {
	texts := []string{"count", "bins age", "count where age = 1", "bins sex where age = 2", "sum age in 0..2", "2 * count", "join(count, bins sex)", "bins none", "count + bins age", "?", strings.Repeat("join(bins age, ", 16) + "count" + strings.Repeat(")", 16)}
	m := saying([]string{"a", "b", "a", "b", "long_name_of_a_session_of_letters", "long_name_of_a_session_of_letter", "A"}[l.below(7)], l.below(5), texts[l.below(len(texts))])
	if l.below(4) > 0 {
		m.Number = l.below(2)
		for _, r := range s.list {
			if r.Session == m.Session {
				m.Number = r.Number + l.below(2)
			}
		}
	}
	m.Purse = []string{"p", "p", "p", "q", "none"}[l.below(5)]
	m.R = []api.Ratio{f(2, 1), f(3, 2), f(5, 4), f(1, 1), f(1, 2)}[l.below(5)]
	m.Low = l.below(3) - 1
	m.High = m.Low + l.below(4)
	switch l.below(60) {
	case 0:
		m.Kind = l.below(4)
	case 1:
		m.Err = 1
	case 2:
		m.Text = strings.Repeat("x", api.MaxFrame)
	}
	return m
}

// TestScripts plays with desks, with the power and with the disk's words, and holds all that is told against a slow desk.
func TestScripts(t *testing.T) {
	l := lot(1)
	met, inside := map[api.Errno]int{}, map[api.Errno]int{}
	for range 1200 {
		size := 150 + l.below(250)
		d, s := newDisk(size), newSlow(size)
		k := opened(t, d)
		holdPurse(t, k, "p", f(9, 1), s.purse("p", f(9, 1)))
		for range 40 {
			switch l.below(12) {
			case 0, 1:
				k = opened(t, d)
				s.open()
			case 2:
				d.left = []int{l.below(25), -1, -1}[l.below(3)]
				s.front.left = d.left
			case 3:
				if at := size/2 + l.below(size/4); l.below(4) == 0 {
					d.words[at] = []int64{0, 1, 2, 8, 9, d.words[at] ^ 1, d.words[at] ^ 1<<40}[l.below(7)]
					s.back.words[at-size/2] = d.words[at]
				}
			case 4:
				name, budget := []string{"p", "q", "P"}[l.below(3)], []api.Ratio{f(40, 1), f(12, 1), f(3, 2)}[l.below(3)]
				holdPurse(t, k, name, budget, s.purse(name, budget))
			default:
				m, bits := l.message(s), l.bits()
				want, err := s.tell(m, bits)
				met[err]++
				if err == api.OK {
					inside[want.Err]++
				}
				holdAs(t, k, m, bits, l.below(2) == 0, want, err)
			}
			if !slices.Equal(d.words, append(slices.Clone(s.front.words), s.back.words...)) || d.bad {
				t.Fatalf("the disk has %v, not %v, %v", d.words, s.front.words, s.back.words)
			}
			d.refused = 0
		}
	}
	for _, err := range []api.Errno{api.OK, api.ErrKind, api.ErrForm, api.ErrRange, api.ErrMuch, api.ErrNone, api.ErrState, api.ErrPower} {
		if met[err] < 20 {
			t.Errorf("%d is told %d times alone: the scripts try too little", err, met[err])
		}
	}
	for _, err := range []api.Errno{api.OK, api.ErrForm, api.ErrRange, api.ErrMuch, api.ErrNone, api.ErrName, api.ErrFit, api.ErrBudget} {
		if inside[err] < 20 {
			t.Errorf("%d is replied %d times alone: the scripts try too little", err, inside[err])
		}
	}
}

// holdAs tells a message, or its bytes where it has some.
func holdAs(t *testing.T, k *desk.Desk, m api.Message, bits []int, bytes bool, want api.Message, werr api.Errno) {
	t.Helper()
	b, err := wire.Pack(m)
	switch {
	case bytes && err == api.OK && werr == api.OK:
		holdBytes(t, k, b, bits, packed(t, want), api.OK)
	case bytes && err == api.OK:
		holdBytes(t, k, b, bits, "", werr)
	case werr == api.OK:
		hold(t, k, m, bits, want)
	default:
		holdErr(t, k, m, bits, werr)
	}
}

// hearing is all that an asker hears who sends each question until it is answered, and then once more, and whose next question hangs on what was told, when the bits are those of a number. Each place takes two bits at most, so that all bits together are as likely as each other.
func hearing(t *testing.T, x api.Table, bits, power int) string {
	d := newDisk(2 * (92 + 30))
	k, err := desk.Open(x, d)
	if err != api.OK {
		t.Fatalf("Open tells %d", err)
	}
	k.Purse("p", f(27, 1))
	d.left = power
	var heard []string
	sum := 0
	for number := 1; number <= 3; {
		m := saying("s", number, []string{"count where age = 0", "count where sex = 1", "count where age = 1", "count", "count where age = 0 and sex = 1"}[sum%5])
		m.R, m.High = f(3, 1), 1
		got, err := k.Tell(m, []int{bits & 1, bits >> 1 & 1})
		bits >>= 2
		heard = append(heard, strconv.Itoa(int(err)))
		if err == api.ErrPower { // the power comes back, and the desk is opened again
			d.left = -1
			k, _ = desk.Open(x, d)
			continue
		}
		number++
		heard = append(heard, strconv.Itoa(int(got.Err)))
		sum += 2 * int(got.Err)
		for _, v := range got.Values {
			heard = append(heard, strconv.Itoa(v))
			sum += v + 1
		}
		again := m
		again.Text = "bins age"
		if other, err := k.Tell(again, []int{1 - bits&1}); err != api.OK || !equal(other, got) {
			t.Errorf("%v is told, and then %v, %d", got, other, err)
		}
	}
	return strings.Join(heard, " ")
}

// TestNobodyIsSeen: whatever is heard in all is at most the budget times likelier with a row than without it, wherever the power goes, and however often something is sent.
func TestNobodyIsSeen(t *testing.T) {
	x := api.Table{Columns: []api.Column{{Name: "age", Size: 2}, {Name: "sex", Size: 2}}}
	for _, power := range []int{-1, 0, 7, 10, 13, 14, 25, 29} {
		hearings := func(x api.Table) map[string]int {
			out := map[string]int{}
			for bits := range 1 << 8 {
				out[hearing(t, x, bits, power)]++
			}
			return out
		}
		without := hearings(x)
		for near := range rows.Near(x) {
			with := hearings(near)
			if len(with) != len(without) {
				t.Errorf("%d things may be heard of one, %d of the other", len(with), len(without))
			}
			for heard, n := range with {
				if m := without[heard]; n > 27*m || m > 27*n {
					t.Errorf("%q is heard %d times, and %d times", heard, n, m)
				}
			}
		}
	}
}
