package house_test

import (
	"slices"
	"strconv"
	"strings"
	"testing"

	"hushhouse/api"
	"hushhouse/ask"
	"hushhouse/house"
	"hushhouse/noise"
	"hushhouse/purse"
	"hushhouse/rows"
)

// slow is a house that has nothing but its disk: each time it reads all of it, as the document says, and tells what comes.
type slow struct {
	words  []int64
	left   int
	book   []api.Entry
	broken bool
}

func (s *slow) open() {
	s.broken = false
	b := purse.New()
	for at := 0; at+9 <= len(s.words); at += 9 {
		r := s.words[at : at+9]
		e := api.Entry{Do: int(r[1]), Part: int(r[2]), Loss: f(int(r[3]), int(r[4]))}
		for _, w := range r[5:] {
			for i := range 8 {
				if c := uint64(w) << (8 * i) >> 56; c != 0 {
					e.Name += string([]byte{byte(c)})
				}
			}
		}
		if !slices.Equal(wordsOf(e), r) || b.Do(e) != api.OK {
			break
		}
	}
	s.book = b.Entries()
}

func (s *slow) do(e api.Entry) api.Errno {
	at := len(s.book)
	if 9*at+9 > len(s.words) {
		return api.ErrMuch
	}
	b := purse.New()
	for _, old := range s.book {
		b.Do(old)
	}
	if err := b.Do(e); err != api.OK {
		return err
	}
	for _, p := range layings(e, at) {
		if s.left == 0 {
			s.broken = true
			return api.ErrPower
		}
		s.left--
		s.words[p.at] = p.word
	}
	s.book = b.Entries()
	return api.OK
}

func (s *slow) ask(q api.Question) (api.Told, api.Errno) {
	if s.broken {
		return api.Told{}, api.ErrState
	}
	_, lost, err := noise.Answer(q.R, q.Low, q.High, people(), q.Ask)
	if err != api.OK {
		return api.Told{}, err
	}
	if len(q.Bits) > api.MaxBits {
		return api.Told{}, api.ErrMany
	}
	for _, b := range q.Bits {
		if b != 0 && b != 1 {
			return api.Told{}, api.ErrRange
		}
	}
	e := spend(q.Purse, lost)
	if v, err := ask.Part(people().Columns, q.Ask, "age"); err == api.OK {
		e = onPart(q.Purse, v, lost)
	}
	if err := s.do(e); err != api.OK {
		return api.Told{}, err
	}
	return slowly(q)
}

// lot is numbers that look as if they came by lot, the same ones each time.
type lot uint64

func (l *lot) below(n int) int {
	*l = *l*6364136223846793005 + 1442695040888963407
	return int(uint64(*l) >> 33 % uint64(n))
}

func (l *lot) bits() []int {
	out := make([]int, l.below(14))
	for i := range out {
		out[i] = l.below(2)
	}
	if l.below(40) == 0 && len(out) > 0 {
		out[l.below(len(out))] = 2
	}
	return out
}

func (l *lot) question() api.Question {
	asks := append(someAsks(), bins("none"), count(aged(0)), count(aged(1)), count(aged(3)), bins("sex", aged(1)))
	losses := []api.Ratio{f(2, 1), f(3, 2), f(5, 4), f(1, 1), f(7, 2), f(1, 2), f(2, 2)}
	low := l.below(3) - 1
	return api.Question{Purse: l.name(), Ask: asks[l.below(len(asks))], R: losses[l.below(len(losses))], Low: low, High: low + l.below(4), Bits: l.bits()}
}

func (l *lot) name() string { return []string{"a", "a", "b", "a_purse", "none", "B"}[l.below(6)] }

// TestScripts plays with houses, with the power and with the disk's words, and holds all that is told against a slow house.
func TestScripts(t *testing.T) {
	l := lot(1)
	met := map[api.Errno]int{}
	for range 1500 {
		size := l.below(100)
		d, s := newDisk(size), &slow{words: make([]int64, size), left: -1}
		h := opened(t, d)
		for range 30 {
			switch l.below(9) {
			case 0:
				h = opened(t, d)
				s.open()
			case 1:
				d.left = []int{l.below(12), -1, -1}[l.below(3)]
				s.left = d.left
			case 2:
				if at := l.below(size + 1); at < size && l.below(3) == 0 {
					d.words[at] = []int64{0, 1, 2, 3, -1, 97 << 56, 98 << 56}[l.below(7)]
					s.words[at] = d.words[at]
				}
			case 3, 4:
				name, budget := l.name(), []api.Ratio{f(12, 1), f(40, 1), f(5, 2), f(1, 2)}[l.below(4)]
				want := api.ErrState
				if !s.broken {
					want = s.do(bookOpen(name, budget))
				}
				met[want]++
				holdPurse(t, h, name, budget, want)
			default:
				q := l.question()
				want, err := s.ask(q)
				met[err]++
				holdAsk(t, h, q, want, err)
			}
			if !s.broken {
				holdEntries(t, h, s.book...)
			} else if _, err := h.Entries(); err != api.ErrState {
				t.Errorf("a broken house tells %d", err)
			}
			if !slices.Equal(d.words, s.words) || d.bad {
				t.Fatalf("the disk has %v, not %v", d.words, s.words)
			}
			d.refused = 0
		}
	}
	for _, err := range []api.Errno{api.OK, api.ErrForm, api.ErrRange, api.ErrMuch, api.ErrNone, api.ErrName, api.ErrState, api.ErrBudget, api.ErrPower} {
		if met[err] < 20 {
			t.Errorf("%d is told %d times alone: the scripts try too little", err, met[err])
		}
	}
}

// hearing is all that an asker hears whose next question hangs on what was told, when the bits are those of a number. Each place takes two bits at most, so that all bits together are as likely as each other.
func hearing(t *testing.T, x api.Table, bits, power int) string {
	d := newDisk(9 * 9)
	h, err := house.Open(x, d)
	if err != api.OK {
		t.Fatalf("Open tells %d", err)
	}
	h.Purse("a", f(27, 1))
	d.left = power
	var heard []string
	sum := 0
	for range 4 {
		q := question("a", []api.Ask{count(aged(0)), count(girls()), count(aged(1)), count(), count(aged(0), girls())}[sum%5], 3, 0, 1)
		q.Bits = []int{bits & 1, bits >> 1 & 1}
		bits >>= 2
		got, err := h.Ask(q)
		heard = append(heard, strconv.Itoa(int(err)))
		if err == api.ErrPower { // the power comes back, and the house is opened again
			d.left = -1
			h, _ = house.Open(x, d)
		}
		sum += 2 * int(err)
		for _, v := range got.Values {
			heard = append(heard, strconv.Itoa(v))
			sum += v + 1
		}
	}
	return strings.Join(heard, " ")
}

// TestNobodyIsSeen: whatever is heard in all is at most the budget times likelier with a row than without it, wherever the power goes.
func TestNobodyIsSeen(t *testing.T) {
	x := api.Table{Columns: []api.Column{{Name: "age", Size: 2}, {Name: "sex", Size: 2}}}
	for _, power := range []int{-1, 0, 7, 13, 29, 30} {
		hearings := func(x api.Table) map[string]int {
			out := map[string]int{}
			for bits := range 1 << 8 {
				out[hearing(t, x, bits, power)]++
			}
			return out
		}
		without := hearings(x)
		for near := range rows.Near(x) {
			with := hearings(near)
			if len(with) != len(without) {
				t.Errorf("%d things may be heard of one, %d of the other", len(with), len(without))
			}
			for heard, n := range with {
				if m := without[heard]; n > 27*m || m > 27*n {
					t.Errorf("%q is heard %d times, and %d times", heard, n, m)
				}
			}
		}
	}
}
