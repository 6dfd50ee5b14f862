package purse_test

import (
	"math/big"
	"math/rand"
	"regexp"
	"slices"
	"testing"

	"hushhouse/api"
	"hushhouse/purse"
)

// slow is a book that has its entries alone, and reckons all anew from them, with numbers of any size.
type slow struct{ done []api.Entry }

var column = regexp.MustCompile(`\A[a-z_]{1,32}\z`)

// right tells of a fraction, by looking whether it stays as it is in lowest terms.
func right(r api.Ratio) bool {
	if r.Up < 0 || r.Up > most || r.Down < 1 || r.Down > most {
		return false
	}
	x := big.NewRat(int64(r.Up), int64(r.Down))
	return x.Num().Int64() == int64(r.Up) && x.Denom().Int64() == int64(r.Down)
}

func number(r api.Ratio) *big.Rat { return big.NewRat(int64(r.Up), int64(r.Down)) }

func tellable(x *big.Rat) bool {
	return x.Num().Cmp(big.NewInt(most)) <= 0 && x.Denom().Cmp(big.NewInt(most)) <= 0
}

func (s *slow) budgets() map[string]api.Ratio {
	out := map[string]api.Ratio{}
	for _, e := range s.done {
		if e.Do == api.BookOpen {
			out[e.Name] = e.Loss
		}
	}
	return out
}

// products are those of which what is spent is made: of all, and of each part.
func (s *slow) products(name string) (*big.Rat, map[int]*big.Rat) {
	all, parts := big.NewRat(1, 1), map[int]*big.Rat{}
	for _, e := range s.done {
		switch {
		case e.Name != name:
		case e.Do == api.BookSpend:
			all.Mul(all, number(e.Loss))
		case e.Do == api.BookPart:
			if parts[e.Part] == nil {
				parts[e.Part] = big.NewRat(1, 1)
			}
			parts[e.Part].Mul(parts[e.Part], number(e.Loss))
		}
	}
	return all, parts
}

// spent is also whether it and all products can be told.
func (s *slow) spent(name string) (*big.Rat, bool) {
	all, parts := s.products(name)
	out, told := all, tellable(all)
	for _, p := range parts {
		told = told && tellable(p)
		if x := new(big.Rat).Mul(all, p); x.Cmp(out) > 0 {
			out = x
		}
	}
	return out, told && tellable(out)
}

func (s *slow) wrong(e api.Entry) api.Errno {
	budgets := s.budgets()
	budget, there := budgets[e.Name]
	_, parts := s.products(e.Name)
	switch {
	case e.Do < 1 || e.Do > 3:
		return api.ErrKind
	case !column.MatchString(e.Name) || !right(e.Loss):
		return api.ErrForm
	case number(e.Loss).Cmp(big.NewRat(1, 1)) < 0:
		return api.ErrRange
	case len(s.done) >= api.MaxEntries:
		return api.ErrMuch
	case there == (e.Do == api.BookOpen):
		return api.ErrName
	case e.Do == api.BookOpen && len(budgets) == api.MaxPurses:
		return api.ErrMany
	case e.Do == api.BookOpen:
		return api.OK
	case e.Do == api.BookPart && (e.Part < 0 || e.Part > api.MaxNum):
		return api.ErrRange
	case e.Do == api.BookPart && parts[e.Part] == nil && len(parts) == api.MaxParts:
		return api.ErrMany
	}
	next := slow{append(slices.Clone(s.done), e)}
	spent, told := next.spent(e.Name)
	switch {
	case !told:
		return api.ErrMuch
	case spent.Cmp(number(budget)) > 0:
		return api.ErrBudget
	}
	return api.OK
}

func (s *slow) do(e api.Entry) api.Errno {
	err := s.wrong(e)
	if err != api.OK {
		return err
	}
	if e.Do != api.BookPart {
		e.Part = 0
	}
	s.done = append(s.done, e)
	return api.OK
}

// some is one of a list.
func some[T any](r *rand.Rand, l ...T) T { return l[r.Intn(len(l))] }

// anyLoss is mostly a small one, sometimes one at the bounds, sometimes none.
func anyLoss(r *rand.Rand) api.Ratio {
	switch r.Intn(12) {
	case 0:
		return some(r, f(most, most-1), f(most-1, most-2), f(1<<15, 1), f(1<<15+1, 1<<15), f(most, 1), f(1<<20, 3))
	case 1:
		return some(r, f(1, 2), f(0, 1), f(2, 4), f(0, 0), f(-1, 1), f(1, -1), f(most+1, 1), f(4, 2))
	case 2, 3, 4:
		return f(1, 1)
	}
	down := 1 + r.Intn(6)
	x := big.NewRat(int64(down+r.Intn(5)), int64(down))
	return f(int(x.Num().Int64()), int(x.Denom().Int64()))
}

func anyEntry(r *rand.Rand, names, parts int) api.Entry {
	e := api.Entry{Do: some(r, 1, 2, 3, 3), Name: nth(r.Intn(names)), Part: r.Intn(parts), Loss: anyLoss(r)}
	switch r.Intn(40) {
	case 0:
		e.Do = some(r, 0, 4, -1)
	case 1:
		e.Name = some(r, "", "A", "a b", "aaaaaaaaaaaaaaaaaaaaaaaaaaaaaaaaa")
	case 2:
		e.Part = some(r, -1, api.MaxNum, api.MaxNum+1)
	}
	if e.Do == api.BookOpen && r.Intn(4) > 0 {
		e.Loss = some(r, f(12, 1), f(100, 1), f(5, 2), f(most, 1), f(1<<20, 1))
	}
	return e
}

// TestP1ToP3Sweep holds books of all kinds against slow ones: of few purses and parts, of many purses, of many parts.
func TestP1ToP3Sweep(t *testing.T) {
	r := rand.New(rand.NewSource(8))
	seen := map[api.Errno]int{}
	for run := range 300 {
		names, parts, steps := 2, 3, 60
		switch run % 30 {
		case 0:
			names, steps = 80, 400
		case 1:
			names, parts, steps = 1, 90, 400
		}
		b, s := purse.New(), &slow{}
		for range steps {
			e := anyEntry(r, names, parts)
			want := s.do(e)
			seen[want]++
			if got := b.Do(e); got != want {
				t.Fatalf("behind %v: Do(%#v) tells %d, not %d", s.done, e, got, want)
			}
		}
		compare(t, b, s)
	}
	for _, err := range []api.Errno{api.OK, api.ErrKind, api.ErrForm, api.ErrRange, api.ErrMuch, api.ErrMany, api.ErrName, api.ErrBudget} {
		if seen[err] < 20 {
			t.Errorf("%d came %d times alone", err, seen[err])
		}
	}
}

func compare(t *testing.T, b *purse.Book, s *slow) {
	t.Helper()
	got := lookAt(t, b)
	if !slices.Equal(got.entries, s.done) {
		t.Fatalf("the entries are %v, not %v", got.entries, s.done)
	}
	budgets := s.budgets()
	if len(got.names) != len(budgets) || !slices.IsSorted(got.names) {
		t.Fatalf("the names are %q", got.names)
	}
	for i, n := range got.names {
		want, _ := s.spent(n)
		if !right(got.spent[i]) || number(got.spent[i]).Cmp(want) != 0 || got.budgets[i] != budgets[n] {
			t.Errorf("of %q %v of %v is spent, not %v of %v", n, got.spent[i], got.budgets[i], want, budgets[n])
		}
	}
}
