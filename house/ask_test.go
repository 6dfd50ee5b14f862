package house_test

import (
	"slices"
	"testing"

	"hushhouse/api"
	"hushhouse/ask"
	"hushhouse/dice"
	"hushhouse/house"
	"hushhouse/noise"
)

func count(where ...api.Test) api.Ask { return api.Ask{Kind: api.AskCount, Where: where} }

func bins(column string, where ...api.Test) api.Ask {
	return api.Ask{Kind: api.AskBins, Column: column, Where: where}
}

func sum(low, high int) api.Ask {
	return api.Ask{Kind: api.AskSum, Column: "age", Low: low, High: high}
}

func made(kind, low int, kids ...api.Ask) api.Ask { return api.Ask{Kind: kind, Low: low, Kids: kids} }

func aged(v int) api.Test { return api.Test{Column: "age", Do: api.TestIs, Value: v} }

func girls() api.Test { return api.Test{Column: "sex", Do: api.TestIs, Value: 1} }

// question is one that is hidden by a whole number, and comes without bits.
func question(purse string, a api.Ask, r, low, high int) api.Question {
	return api.Question{Purse: purse, Ask: a, R: f(r, 1), Low: low, High: high}
}

// rich is a house with a purse that has all that a purse may have.
func rich(t *testing.T) (*house.House, *disk) {
	d := newDisk(9 * 200)
	h := opened(t, d)
	holdPurse(t, h, "a", f(most, 1), api.OK)
	return h, d
}

// lastOf is the entry that was done last.
func lastOf(t *testing.T, h *house.House) api.Entry {
	t.Helper()
	l, err := h.Entries()
	if err != api.OK || len(l) == 0 {
		t.Fatalf("the entries are %v, %d", l, err)
	}
	return l[len(l)-1]
}

func TestH5Ask(t *testing.T) {
	h, _ := rich(t)
	q := question("a", count(), 2, 0, 3) // 0, 1, 2, 3 with 1/12, 1/12, 2/12, 8/12: in digits 0.0001.., 0.0001.., 0.0010.., 0.1010..
	for _, x := range []struct {
		bits []int
		want api.Told
		err  api.Errno
	}{
		{[]int{0}, api.Told{Values: []int{3}, Bits: 1, Lost: f(2, 1)}, api.OK},
		{[]int{0, 1, 1}, api.Told{Values: []int{3}, Bits: 1, Lost: f(2, 1)}, api.OK},
		{[]int{1, 0, 0}, api.Told{Values: []int{2}, Bits: 3, Lost: f(2, 1)}, api.OK},
		{[]int{1, 0, 1, 0, 0}, api.Told{Values: []int{3}, Bits: 3, Lost: f(2, 1)}, api.OK},
		{[]int{1, 1, 0, 0, 0}, api.Told{Values: []int{0}, Bits: 4, Lost: f(2, 1)}, api.OK},
		{[]int{1, 1, 0, 1}, api.Told{Values: []int{1}, Bits: 4, Lost: f(2, 1)}, api.OK},
		{[]int{1, 0}, api.Told{}, api.ErrNone},
		{[]int{1, 1, 1, 1}, api.Told{}, api.ErrNone},
		{nil, api.Told{}, api.ErrNone},
	} {
		q.Bits = x.bits
		holdAsk(t, h, q, x.want, x.err)
		if got := lastOf(t, h); got != spend("a", f(2, 1)) {
			t.Errorf("%v was paid", got)
		}
	}
	if l, _ := h.Entries(); len(l) != 10 {
		t.Errorf("there are %d entries: what is paid is paid", len(l))
	}
}

// TestH5PlaceByPlace holds Ask against Answer and Rolls: each place is drawn from the bits that the ones ahead left.
func TestH5PlaceByPlace(t *testing.T) {
	turn := uint32(7)
	for _, a := range someAsks() {
		for _, w := range [][2]int{{0, 3}, {-1, 1}, {2, 2}} {
			for long := 0; long < 60; long += 3 {
				bits := make([]int, long)
				for i := range bits {
					turn = turn*1664525 + 1013904223
					bits[i] = int(turn >> 31)
				}
				h, d := rich(t)
				q := api.Question{Purse: "a", Ask: a, R: f(3, 2), Low: w[0], High: w[1], Bits: bits}
				want, err := slowly(q)
				holdAsk(t, h, q, want, err)
				if lastOf(t, h).Loss != lossOf(t, q) || len(d.puts) != 20 {
					t.Errorf("%v was paid, with %d words", lastOf(t, h), len(d.puts))
				}
			}
		}
	}
}

// someAsks are questions of every kind.
func someAsks() []api.Ask {
	return []api.Ask{
		count(), count(girls()), count(aged(2)), sum(-1, 2), bins("age"), bins("sex", aged(0)), made(api.AskAdd, 0, count(), sum(0, 1)),
		made(api.AskSub, 0, bins("sex"), bins("sex")), made(api.AskTimes, -2, bins("age")), made(api.AskTimes, 0, count()), made(api.AskJoin, 0, bins("age"), count(girls())),
		made(api.AskTotal, 0, bins("age")), made(api.AskPick, 3, bins("age")), {Kind: api.AskClamp, Low: 0, High: 1, Kids: []api.Ask{sum(0, 3)}},
	}
}

// slowly is what is told of a question that can be paid.
func slowly(q api.Question) (api.Told, api.Errno) {
	places, lost, err := noise.Answer(q.R, q.Low, q.High, people(), q.Ask)
	if err != api.OK {
		return api.Told{}, err
	}
	out := api.Told{Lost: lost}
	for _, d := range places {
		l, err := dice.Rolls(d, q.Bits[out.Bits:], 1)
		if err != api.OK {
			return api.Told{}, err
		}
		if len(l) == 0 {
			return api.Told{}, api.ErrNone
		}
		out.Values = append(out.Values, l[0].Out[0])
		out.Bits += l[0].Bits
	}
	return out, api.OK
}

func lossOf(t *testing.T, q api.Question) api.Ratio {
	t.Helper()
	_, lost, err := noise.Answer(q.R, q.Low, q.High, people(), q.Ask)
	if err != api.OK {
		t.Fatalf("Answer tells %d", err)
	}
	return lost
}

// TestH5Parts: who asks of one value of the first column alone pays for that part; of another column it is paid on all.
func TestH5Parts(t *testing.T) {
	not := api.Test{Column: "age", Do: api.TestNot, Value: 2}
	for _, x := range []struct {
		a    api.Ask
		want api.Entry
	}{
		{count(), spend("a", f(2, 1))},
		{count(aged(0)), onPart("a", 0, f(2, 1))},
		{count(aged(3)), onPart("a", 3, f(2, 1))},
		{count(aged(4)), spend("a", f(2, 1))},
		{count(aged(-1)), spend("a", f(2, 1))},
		{count(girls()), spend("a", f(2, 1))},
		{count(girls(), aged(1)), onPart("a", 1, f(2, 1))},
		{count(aged(1), aged(2)), onPart("a", 1, f(2, 1))},
		{count(not), spend("a", f(2, 1))},
		{bins("age", aged(1)), onPart("a", 1, f(2, 1))},
		{bins("sex", aged(2)), onPart("a", 2, f(2, 1))},
		{made(api.AskJoin, 0, count(aged(2)), bins("sex", aged(2))), onPart("a", 2, f(4, 1))},
		{made(api.AskJoin, 0, count(aged(2)), bins("sex", aged(1))), spend("a", f(4, 1))},
		{made(api.AskAdd, 0, count(aged(2)), count()), spend("a", f(4, 1))},
		{made(api.AskTimes, 0, count(aged(2))), onPart("a", 2, f(1, 1))},
	} {
		h, d := rich(t)
		if got, err := h.Ask(question("a", x.a, 2, 1, 1)); err != api.OK || got.Lost != x.want.Loss {
			t.Errorf("Ask(%v) is %v, %d", x.a, got, err)
		}
		holdEntries(t, h, bookOpen("a", f(most, 1)), x.want)
		if got, want := d.words[9:18], wordsOf(x.want); !slices.Equal(got, want) {
			t.Errorf("of %v the disk has %v, not %v", x.a, got, want)
		}
		if v, err := ask.Part(people().Columns, x.a, "age"); (err == api.OK) != (x.want.Do == api.BookPart) || v != x.want.Part {
			t.Errorf("Part(%v) is %d, %d", x.a, v, err)
		}
	}
}

// TestH5PartsAreCheap: of as many values as there are the budget is enough for each, though not for two on one of them.
func TestH5PartsAreCheap(t *testing.T) {
	h := opened(t, newDisk(9*10))
	holdPurse(t, h, "a", f(2, 1), api.OK)
	for v := range 4 {
		holdAsk(t, h, question("a", count(aged(v)), 2, v, v), api.Told{Values: []int{v}, Lost: f(2, 1)}, api.OK)
	}
	for v := range 4 {
		holdAsk(t, h, question("a", count(aged(v)), 2, v, v), api.Told{}, api.ErrBudget)
	}
	holdAsk(t, h, question("a", count(), 2, 0, 0), api.Told{}, api.ErrBudget)
	holdAsk(t, h, question("a", count(), 1, 0, 0), api.Told{Values: []int{0}, Lost: f(1, 1)}, api.OK)
}

// TestH5Order: what Answer says, ahead of what Rolls says of the bits, ahead of the disk's room and what the book says, ahead of the bits' end; and nothing is paid but there.
func TestH5Order(t *testing.T) {
	type tried struct {
		set func(q *api.Question)
		err api.Errno
	}
	answers := []tried{
		{func(q *api.Question) { q.Ask = api.Ask{} }, api.ErrKind},
		{func(q *api.Question) { q.Ask = bins("none") }, api.ErrName},
		{func(q *api.Question) { q.Ask = sum(1, 0) }, api.ErrRange},
		{func(q *api.Question) { q.R = f(2, 4) }, api.ErrForm},
		{func(q *api.Question) { q.R = f(1, 2) }, api.ErrRange},
		{func(q *api.Question) { q.Low = 4 }, api.ErrRange},
		{func(q *api.Question) { q.High = 40 }, api.ErrMuch},
		{func(q *api.Question) { q.Ask = sum(0, 31) }, api.ErrMuch},
		{func(*api.Question) {}, api.OK},
	}
	rolls := []tried{
		{func(q *api.Question) { q.Bits = make([]int, api.MaxBits+1); q.Bits[3] = 2 }, api.ErrMany},
		{func(q *api.Question) { q.Bits = []int{0, 0, 0, 0, 2} }, api.ErrRange},
		{func(q *api.Question) { q.Bits = []int{-1} }, api.ErrRange},
		{func(*api.Question) {}, api.OK},
	}
	books := []tried{
		{func(q *api.Question) { q.Purse = "A" }, api.ErrForm},
		{func(q *api.Question) { q.Purse = "none" }, api.ErrName},
		{func(q *api.Question) { q.Purse = "poor" }, api.ErrBudget},
		{func(*api.Question) {}, api.OK},
	}
	for _, x := range answers {
		for _, y := range rolls {
			for _, z := range books {
				d := newDisk(9 * 5)
				h := opened(t, d)
				holdPurse(t, h, "a", f(9, 1), api.OK)
				holdPurse(t, h, "poor", f(3, 2), api.OK)
				q := question("a", count(), 2, 0, 3)
				q.Bits = []int{1, 0}
				x.set(&q)
				y.set(&q)
				z.set(&q)
				want := api.ErrNone
				for _, err := range []api.Errno{z.err, y.err, x.err} {
					if err != api.OK {
						want = err
					}
				}
				holdAsk(t, h, q, api.Told{}, want)
				paid := []api.Entry{bookOpen("a", f(9, 1)), bookOpen("poor", f(3, 2))}
				if want == api.ErrNone {
					paid = append(paid, spend("a", f(2, 1)))
				}
				holdEntries(t, h, paid...)
				if len(d.puts) != 10*len(paid) {
					t.Errorf("%d words were put", len(d.puts))
				}
			}
		}
	}
}

// TestH5ManyBits: as many as there may be, and as many places.
func TestH5ManyBits(t *testing.T) {
	h, _ := rich(t)
	q := question("a", count(), 2, 0, 3)
	q.Bits = make([]int, api.MaxBits)
	holdAsk(t, h, q, api.Told{Values: []int{3}, Bits: 1, Lost: f(2, 1)}, api.OK)
	q.Bits = make([]int, api.MaxBits+1)
	holdAsk(t, h, q, api.Told{}, api.ErrMany)
	q.Bits = make([]int, api.MaxBits)
	q.Bits[api.MaxBits-1] = 2
	holdAsk(t, h, q, api.Told{}, api.ErrRange)

	x := api.Table{Columns: []api.Column{{Name: "all", Size: api.MaxCells}}, Rows: [][]int{{7}, {4095}, {4095}}}
	wide, err := house.Open(x, newDisk(90))
	if err != api.OK {
		t.Fatalf("Open tells %d", err)
	}
	holdPurse(t, wide, "a", f(9, 1), api.OK)
	q.Ask, q.High, q.Bits = bins("all"), 1, make([]int, api.MaxBits)
	for i := range q.Bits {
		q.Bits[i] = i % 2
	}
	// 0 and 1 with 2/3 and 1/3, in digits 0.1010.. and 0.0101..: the bit 0 is 0, the bits 1, 0 are 1; where 1 is right it is the other way round.
	want := api.Told{Values: make([]int, api.MaxCells), Lost: f(2, 1)}
	for i := range want.Values {
		right := i == 7 || i == 4095
		if q.Bits[want.Bits] == 0 {
			want.Bits++
			want.Values[i] = map[bool]int{true: 1}[right]
		} else {
			want.Bits += 2
			want.Values[i] = map[bool]int{false: 1}[right]
		}
	}
	holdAsk(t, wide, q, want, api.OK)
	q.Bits = q.Bits[:want.Bits-1]
	holdAsk(t, wide, q, api.Told{}, api.ErrNone)
	q.Bits = make([]int, api.MaxCells)
	holdAsk(t, wide, q, api.Told{Values: append(append(append(make([]int, 7), 1), make([]int, 4087)...), 1), Bits: api.MaxCells, Lost: f(2, 1)}, api.OK)
	holdAsk(t, wide, q, api.Told{}, api.ErrBudget)
}

// TestH5PaidAhead: when the power goes nothing is told, and when something is told it was paid: at each word.
func TestH5PaidAhead(t *testing.T) {
	for left := range 12 {
		d := diskOf(append(wordsOf(first()), make([]int64, 18)...)...)
		h := opened(t, d)
		d.left = left
		q := question("a_purse", bins("sex"), 2, 0, 3)
		q.Bits = []int{0, 0, 0, 0, 0, 0}
		got, err := h.Ask(q)
		d.left, d.refused = -1, 0
		l, _ := opened(t, d).Entries()
		if told := err == api.OK; told != (left >= 10) || told != (len(l) == 2) || told != (len(got.Values) == 2) {
			t.Errorf("with power for %d words %v, %d is told, and %v paid", left, got, err, l)
		}
	}
}

// TestH5EndsInTheMidst: the bits end in a place behind others that were drawn: nothing is told of any.
func TestH5EndsInTheMidst(t *testing.T) {
	h, _ := rich(t)
	q := question("a", bins("age"), 2, 0, 1) // each place takes one bit 0
	for many := range 4 {
		q.Bits = make([]int, many)
		holdAsk(t, h, q, api.Told{}, api.ErrNone)
	}
	q.Bits = make([]int, 4)
	holdAsk(t, h, q, api.Told{Values: []int{1, 0, 1, 1}, Bits: 4, Lost: f(2, 1)}, api.OK)
	if l, _ := h.Entries(); len(l) != 6 {
		t.Errorf("there are %d entries", len(l))
	}
}
