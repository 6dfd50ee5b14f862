package sample_test

import (
	"fmt"
	"math"
	"math/big"
	"math/rand"
	"slices"
	"testing"

	"hushhouse/api"
	"hushhouse/dist"
	"hushhouse/noise"
	"hushhouse/plain"
	"hushhouse/ratio"
	"hushhouse/rows"
	"hushhouse/sample"
)

type teller = func(api.Table) (api.Dist, api.Errno)

// people is a table of so many rows, each with its place as its value.
func people(many int) api.Table {
	t := api.Table{Columns: []api.Column{{Name: "who", Size: 4096}}}
	for i := range many {
		t.Rows = append(t.Rows, []int{i})
	}
	return t
}

// names tells for certain which rows a table has, in their order.
func names(s api.Table) (api.Dist, api.Errno) { return dist.Sure(slices.Concat(s.Rows...)) }

// hidden tells how many rows there are, hidden.
func hidden(s api.Table) (api.Dist, api.Errno) { return noise.Hide(f(2, 1), 0, 3, len(s.Rows)) }

// never is not to be asked.
func never(t *testing.T) teller {
	return func(api.Table) (api.Dist, api.Errno) {
		t.Helper()
		t.Errorf("what comes of the rows is asked, and something was wrong ahead of it")
		return nil, api.ErrState
	}
}

func holdThrough(t *testing.T, what string, p api.Ratio, x api.Table, do teller, want api.Dist, werr api.Errno) {
	t.Helper()
	got, err := sample.Through(p, x, do)
	hold(t, fmt.Sprintf("%s: Through(%v, %v, ..)", what, p, x), got, err, want, werr)
}

func TestS2Examples(t *testing.T) {
	x, _ := rows.Read("age:4 sex:2\n3 1\n0 0\n2 1\n")
	holdThrough(t, "three rows", f(1, 3), x, hidden, line(125, 77, 58, 64), api.OK)
	x.Rows = x.Rows[:1]
	holdThrough(t, "one row", f(1, 2), x, hidden, line(4, 2, 1, 1), api.OK)
	holdThrough(t, "none is looked at", f(0, 1), x, hidden, line(8, 2, 1, 1), api.OK)
	holdThrough(t, "all are looked at", f(1, 1), x, hidden, line(2, 2, 1, 1), api.OK)
	for _, none := range [][][]int{nil, {}} {
		holdThrough(t, "nobody", f(1, 3), api.Table{Columns: x.Columns, Rows: none}, hidden, line(8, 2, 1, 1), api.OK)
	}
}

// TestS2Rows: each subset's rows, in their order, each time as likely as the subset, whatever order the table's rows stand in.
func TestS2Rows(t *testing.T) {
	holdThrough(t, "who", f(1, 3), people(2), names, api.Dist{{Out: []int{}, Weight: 4}, {Out: []int{0}, Weight: 2}, {Out: []int{0, 1}, Weight: 1}, {Out: []int{1}, Weight: 2}}, api.OK)
	x := people(0)
	x.Rows = [][]int{{7}, {3}, {7}}
	holdThrough(t, "two alike", f(1, 3), x, names, api.Dist{{Out: []int{}, Weight: 8}, {Out: []int{3}, Weight: 4}, {Out: []int{3, 7}, Weight: 2}, {Out: []int{7}, Weight: 8}, {Out: []int{7, 3}, Weight: 2}, {Out: []int{7, 3, 7}, Weight: 1}, {Out: []int{7, 7}, Weight: 2}}, api.OK)
}

// TestS2Asked: for each subset that may come, in order, with the table's columns; for no other one.
func TestS2Asked(t *testing.T) {
	for many := range api.MaxSample + 1 {
		x := people(many)
		x.Columns = append(x.Columns, api.Column{Name: "half", Size: 1})
		for i := range x.Rows {
			x.Rows[i] = append(x.Rows[i], 0)
		}
		for _, p := range []api.Ratio{f(1, 2), f(3, 8), f(0, 1), f(1, 1)} {
			sets, _ := sample.Subsets(p, many)
			at := 0
			got, err := sample.Through(p, x, func(s api.Table) (api.Dist, api.Errno) {
				set := 0
				for i, row := range s.Rows {
					if i > 0 && row[0] <= s.Rows[i-1][0] {
						t.Errorf("rows are out of their order: %v", s)
					}
					set += 1 << row[0]
				}
				if !slices.Equal(s.Columns, x.Columns) || rows.Wrong(s) != api.OK {
					t.Errorf("the table is %v", s)
				}
				if at < len(sets) && set != sets[at].Out[0] {
					t.Errorf("%d is asked, not %v", set, sets[at])
				}
				at++
				return dist.Sure([]int{set})
			})
			hold(t, "the subsets themselves", got, err, sets, api.OK)
			if at != len(sets) {
				t.Errorf("of %d rows by %v, %d subsets are asked, not %d", many, p, at, len(sets))
			}
		}
	}
}

// TestS2WrongTable: told ahead of what is wrong with p, with how many rows there are, and with f.
func TestS2WrongTable(t *testing.T) {
	wide := people(11)
	for _, x := range []struct {
		name  string
		table api.Table
		err   api.Errno
	}{
		{"no columns", api.Table{}, api.ErrMany},
		{"a name", api.Table{Columns: []api.Column{{Name: "A", Size: 2}}}, api.ErrForm},
		{"a size", api.Table{Columns: []api.Column{{Name: "a", Size: 0}}}, api.ErrRange},
		{"one name twice", api.Table{Columns: []api.Column{{Name: "a", Size: 1}, {Name: "a", Size: 1}}}, api.ErrName},
		{"too many rows", people(api.MaxRows + 1), api.ErrMuch},
		{"a row without a value", api.Table{Columns: wide.Columns, Rows: append(slices.Clone(wide.Rows), nil)}, api.ErrFit},
		{"a value beyond", api.Table{Columns: wide.Columns, Rows: append(slices.Clone(wide.Rows), []int{4096})}, api.ErrRange},
		{"a value below", api.Table{Columns: wide.Columns, Rows: [][]int{{math.MinInt}}}, api.ErrRange},
	} {
		for _, p := range slices.Concat(notRight(), above(), chances()) {
			holdThrough(t, x.name, p, x.table, never(t), nil, x.err)
			holdThrough(t, x.name, p, x.table, nil, nil, x.err)
		}
	}
}

// TestS2WrongChance: what Subsets says, ahead of what f says.
func TestS2WrongChance(t *testing.T) {
	for _, many := range []int{0, 1, 3, 10, 11, 100, api.MaxRows} {
		for _, p := range slices.Concat(notRight(), above(), chances()) {
			if _, err := sample.Subsets(p, many); err != api.OK {
				for _, do := range []teller{never(t), nil} {
					if got, say := sample.Through(p, people(many), do); len(got) > 0 || say != err {
						t.Errorf("of %d rows by %v: %v, %d, not %d", many, p, got, say, err)
					}
				}
			}
		}
	}
	holdThrough(t, "no function", f(1, 3), people(2), nil, nil, api.ErrNone)
}

// TestS2WrongBehind: what f says of one subset, what is wrong with what it tells, and what is too much in all.
func TestS2WrongBehind(t *testing.T) {
	at := func(who int, then api.Dist, err api.Errno) teller {
		return func(s api.Table) (api.Dist, api.Errno) {
			if slices.ContainsFunc(s.Rows, func(row []int) bool { return row[0] == who }) {
				return then, err
			}
			return names(s)
		}
	}
	for who := range 3 {
		for _, err := range []api.Errno{api.ErrKind, api.ErrForm, api.ErrBudget, api.Errno(-5), api.Errno(99)} {
			holdThrough(t, "an error", f(1, 3), people(3), at(who, line(1, 2), err), nil, err)
			holdThrough(t, "an error that cannot come", f(0, 1), people(3), at(who, nil, err), api.Dist{{Out: []int{}, Weight: 1}}, api.OK)
		}
		holdThrough(t, "nothing", f(1, 3), people(3), at(who, nil, api.OK), nil, api.ErrNone)
		holdThrough(t, "nothing", f(1, 3), people(3), at(who, api.Dist{}, api.OK), nil, api.ErrNone)
		holdThrough(t, "not in lowest terms", f(1, 3), people(3), at(who, line(2, 2), api.OK), nil, api.ErrForm)
		holdThrough(t, "below 0", f(1, 3), people(3), at(who, api.Dist{{Out: []int{1}, Weight: -1}}, api.OK), nil, api.ErrRange)
		holdThrough(t, "no outcome", f(1, 3), people(3), at(who, api.Dist{{Out: []int{api.MaxNum + 1}, Weight: 1}}, api.OK), nil, api.ErrRange)
		holdThrough(t, "too much", f(1, 3), people(3), at(who, line(1, most), api.OK), nil, api.ErrMuch)
		holdThrough(t, "too much in all", f(1, 3), people(3), at(who, line(1, most-1), api.OK), nil, api.ErrMuch)
	}
	first := func(s api.Table) (api.Dist, api.Errno) { return nil, api.Errno(100 + len(s.Rows)) }
	holdThrough(t, "the first error", f(1, 2), people(3), first, nil, 100)
	holdThrough(t, "the first error", f(1, 1), people(3), first, nil, 103)
}

// TestS2Much: what all may stand over is just MaxPart, and then more.
func TestS2Much(t *testing.T) {
	even := func(down int) teller { return func(api.Table) (api.Dist, api.Errno) { return line(1, down-1), api.OK } }
	holdThrough(t, "just MaxPart", f(1, 1<<5), people(3), even(1<<15), line(1, 1<<15-1), api.OK)
	holdThrough(t, "more", f(1, 1<<5), people(3), even(1<<15+1), nil, api.ErrMuch)
	own := func(s api.Table) (api.Dist, api.Errno) { return line(1, 1<<(3*len(s.Rows))-1), api.OK }
	if got, err := sample.Through(f(1, 2), people(7), own); err != api.OK || len(got) != 2 {
		t.Errorf("of totals that divide one another comes %v, %d", got, err)
	}
	holdThrough(t, "more in all", f(1, 2), people(8), own, nil, api.ErrMuch)
}

// TestS2Outcomes: as many as may come, and then more.
func TestS2Outcomes(t *testing.T) {
	each := func(many int) teller {
		return func(s api.Table) (api.Dist, api.Errno) {
			var d api.Dist
			for i := range many {
				set := 0
				for _, row := range s.Rows {
					set += 1 << row[0]
				}
				d = append(d, api.Part{Out: []int{set, i}, Weight: 1})
			}
			return d, api.OK
		}
	}
	got, err := sample.Through(f(1, 2), people(10), each(4))
	if err != api.OK || len(got) != api.MaxOuts || slices.ContainsFunc(got, func(p api.Part) bool { return p.Weight != 1 }) {
		t.Errorf("%d outcomes come, %d", len(got), err)
	}
	holdThrough(t, "too many outcomes", f(1, 2), people(10), each(5), nil, api.ErrMuch)
}

// tally is how likely each outcome is, by numbers without bounds.
type tally struct {
	outs  map[string][]int
	parts map[string]*big.Rat
}

// slow adds what f tells of each subset's rows, times the subset's chance: both row by row.
func slow(p api.Ratio, x api.Table, do teller) tally {
	sum := tally{map[string][]int{}, map[string]*big.Rat{}}
	for set := range 1 << len(x.Rows) {
		some := api.Table{Columns: x.Columns}
		for i, row := range x.Rows {
			if set/(1<<i)%2 == 1 {
				some.Rows = append(some.Rows, row)
			}
		}
		then, _ := do(some)
		for _, part := range then {
			key := fmt.Sprint(part.Out)
			if sum.parts[key] == nil {
				sum.parts[key] = new(big.Rat)
			}
			c, _ := dist.Chance(then, part.Out)
			chance := slowChance(p, len(x.Rows), set)
			sum.outs[key] = part.Out
			sum.parts[key].Add(sum.parts[key], chance.Mul(chance, big.NewRat(int64(c.Up), int64(c.Down))))
		}
	}
	return sum
}

// is tells whether a distribution has just these chances.
func (s tally) is(d api.Dist) bool {
	for key, chance := range s.parts {
		c, err := dist.Chance(d, s.outs[key])
		if err != api.OK || chance.Cmp(big.NewRat(int64(c.Up), int64(c.Down))) != 0 {
			return false
		}
	}
	return dist.Wrong(d) == api.OK
}

// anyTable is a table of so many rows, as if by lot.
func anyTable(any *rand.Rand, many int) api.Table {
	t := api.Table{Columns: []api.Column{{Name: "age", Size: 3}, {Name: "sex", Size: 2}}}
	for range many {
		t.Rows = append(t.Rows, []int{any.Intn(3), any.Intn(2)})
	}
	return t
}

func TestS2Sweep(t *testing.T) {
	any := rand.New(rand.NewSource(2))
	ages := func(s api.Table) (api.Dist, api.Errno) {
		sum := 0
		for _, row := range s.Rows {
			sum += row[0] * (1 + row[1])
		}
		return noise.Hide(f(3, 2), 0, 4, sum)
	}
	for range 200 {
		x := anyTable(any, any.Intn(5))
		for _, p := range []api.Ratio{f(1, 2), f(1, 3), f(3, 4), f(2, 5), f(0, 1), f(1, 1)} {
			for _, do := range []teller{names, hidden, ages} {
				got, err := sample.Through(p, x, do)
				if want := slow(p, x, do); err != api.OK || !want.is(got) {
					t.Fatalf("Through(%v, %v, ..) is %v, %d, not %v", p, x, got, err, want.parts)
				}
			}
		}
	}
}

// TestS2S3NobodyIsSeen: with a row and without it nothing that may come is more times likelier than Lost says.
func TestS2S3NobodyIsSeen(t *testing.T) {
	any := rand.New(rand.NewSource(3))
	tight := false
	for range 30 {
		x := anyTable(any, any.Intn(4))
		for _, p := range []api.Ratio{f(1, 2), f(1, 3), f(3, 4), f(0, 1), f(1, 1)} {
			for _, r := range []api.Ratio{f(2, 1), f(3, 2), f(1, 1)} {
				do := func(s api.Table) (api.Dist, api.Errno) { return noise.Hide(r, 0, 3, len(s.Rows)) }
				here, err := sample.Through(p, x, do)
				lost, lerr := sample.Lost(p, r)
				for near := range rows.Near(x) {
					there, nerr := sample.Through(p, near, do)
					far, ferr := dist.Far(here, there)
					order, oerr := ratio.Order(far, lost)
					if err != api.OK || lerr != api.OK || nerr != api.OK || ferr != api.OK || oerr != api.OK || order > 0 {
						t.Fatalf("by %v and %v, of %v and %v: %v times likelier, not %v", p, r, x, near, far, lost)
					}
					tight = tight || order == 0 && p == f(1, 3) && r == f(2, 1)
				}
			}
		}
	}
	if !tight {
		t.Errorf("less is lost than is told, each time")
	}
}

// TestS2Plain: what the given package asks through a sample.
func TestS2Plain(t *testing.T) {
	x, _ := rows.Read("age:4 sex:2\n3 1\n0 0\n2 1\n")
	count := api.Ask{Kind: api.AskCount}
	got, err := plain.Sampled(f(1, 3), f(2, 1), 0, 3, x, count)
	hold(t, "Sampled", got, err, line(125, 77, 58, 64), api.OK)
	got, err = plain.Sampled(f(1, 3), f(2, 1), 0, 3, x, api.Ask{Kind: 77})
	hold(t, "a question that is none", got, err, nil, api.ErrKind)
	got, err = plain.Sampled(f(1, 3), f(1, 2), 0, 3, x, count)
	hold(t, "less than 1", got, err, nil, api.ErrRange)
}

// TestE1AnsweredAgain: the same each time, whatever was asked between.
func TestE1AnsweredAgain(t *testing.T) {
	first, _ := sample.Through(f(1, 3), people(4), names)
	sample.Through(f(1, 2), people(10), hidden)
	sample.Through(f(1, 3), people(4), func(api.Table) (api.Dist, api.Errno) { return nil, api.ErrKind })
	second, _ := sample.Through(f(1, 3), people(4), names)
	if !slices.EqualFunc(first, second, same) {
		t.Errorf("%v, then %v comes", first, second)
	}
}
