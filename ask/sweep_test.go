package ask_test

import (
	"cmp"
	"math/big"
	"math/rand"
	"slices"
	"testing"

	"hushhouse/api"
	"hushhouse/ask"
	"hushhouse/rows"
)

// anyOf is one of some.
func anyOf[T any](r *rand.Rand, some ...T) T { return some[r.Intn(len(some))] }

// dice is a source of questions; of so many in a hundred choices one is wrong.
type dice struct {
	*rand.Rand
	wrong int
}

func (d dice) slip() bool { return d.Intn(100) < d.wrong }

func (d dice) column() string {
	if d.slip() {
		return anyOf(d.Rand, "", "none", "AGE")
	}
	return anyOf(d.Rand, "age", "sex", "one")
}

func (d dice) where() []api.Test {
	var out []api.Test
	for range anyOf(d.Rand, 0, 0, 1, 1, 2, 3) {
		do := 1 + d.Intn(6)
		if d.slip() {
			do = anyOf(d.Rand, 0, 7, -1)
		}
		if d.Intn(2) == 0 {
			do = api.TestIs
		}
		out = append(out, test(d.column(), do, d.Intn(6)-1))
	}
	if d.slip() {
		out = append(out, slices.Repeat([]api.Test{is("age", 1)}, api.MaxAsk)...)
	}
	return out
}

// ask is a question that reaches down at most so many levels.
func (d dice) ask(levels int) api.Ask {
	kind, kids := 1+d.Intn(3), 0
	if levels > 1 && d.Intn(4) > 0 {
		kind = 4 + d.Intn(7)
		kids = map[int]int{4: 2, 5: 2, 6: 1, 7: 2, 8: 1, 9: 1, 10: 1}[kind]
	}
	if d.slip() {
		kind = d.Intn(14) - 1
	}
	if d.slip() {
		kids = d.Intn(4)
	}
	a := api.Ask{Kind: kind, Column: d.column(), Where: d.where()}
	a.Low, a.High = d.Intn(9)-4, d.Intn(9)-4
	if kind != api.AskPick && a.Low > a.High && d.Intn(8) > 0 {
		a.Low, a.High = a.High, a.Low
	}
	if kind == api.AskPick && d.Intn(3) > 0 {
		a.Low = d.Intn(2)
	}
	if d.slip() {
		a.Low *= anyOf(d.Rand, 1<<10, 1<<18, 1<<19, 1<<60)
	}
	if d.Intn(5) == 0 {
		a.High = anyOf(d.Rand, 1<<10, 1<<20, 1<<20+1)
	}
	for range kids {
		a.Kids = append(a.Kids, d.ask(levels-1))
	}
	if len(a.Kids) == 2 && kind < api.AskJoin && d.Intn(2) == 0 {
		a.Kids[1] = a.Kids[0] // as many places
	}
	return a
}

func (d dice) table() api.Table {
	x := api.Table{Columns: people()}
	for range d.Intn(12) {
		x.Rows = append(x.Rows, []int{d.Intn(4), d.Intn(2), 0})
	}
	return x
}

// slow says what K1 and K2 say, of numbers of any size: places, moves and most.
type slow [3]*big.Int

func slowOf(places, moves, most int64) slow {
	return slow{big.NewInt(places), big.NewInt(moves), big.NewInt(most)}
}

// slowType goes through a list of what must be looked at, one behind the other, instead of calling itself.
func slowType(l []api.Column, a api.Ask) (api.Bound, api.Errno) {
	type look struct {
		a      api.Ask
		level  int
		behind bool
	}
	work, done := []look{{a, 1, false}}, []slow{}
	for len(work) > 0 {
		next := work[0]
		work = work[1:]
		if next.behind {
			n := len(next.a.Kids)
			b, err := slowSelf(l, next.a, done[len(done)-n:])
			if err != api.OK {
				return api.Bound{}, err
			}
			done = append(done[:len(done)-n], b)
			continue
		}
		switch {
		case next.level == 65:
			return api.Bound{}, api.ErrMuch
		case next.a.Kind < 1 || next.a.Kind > 10:
			return api.Bound{}, api.ErrKind
		case len(next.a.Kids) != []int{0, 0, 0, 0, 2, 2, 1, 2, 1, 1, 1}[next.a.Kind]:
			return api.Bound{}, api.ErrMany
		}
		var more []look
		for _, kid := range next.a.Kids {
			more = append(more, look{kid, next.level + 1, false})
		}
		work = slices.Concat(more, []look{{next.a, next.level, true}}, work)
	}
	return api.Bound{Places: int(done[0][0].Int64()), Moves: int(done[0][1].Int64()), Most: int(done[0][2].Int64())}, api.OK
}

func sizeOf(l []api.Column, name string) int64 {
	for _, c := range l {
		if c.Name == name {
			return int64(c.Size)
		}
	}
	return 0
}

// slowSelf is what is said of a question behind its kids.
func slowSelf(l []api.Column, a api.Ask, kids []slow) (slow, api.Errno) {
	leaf := a.Kind <= api.AskBins
	if (a.Kind == api.AskSum || a.Kind == api.AskBins) && sizeOf(l, a.Column) == 0 {
		return slow{}, api.ErrName
	}
	in := func(v int) bool { return v >= -1<<20 && v <= 1<<20 }
	if (a.Kind == api.AskSum || a.Kind == api.AskClamp) && !(in(a.Low) && in(a.High) && a.Low <= a.High) ||
		a.Kind == api.AskTimes && !in(a.Low) ||
		a.Kind == api.AskPick && (a.Low < 0 || big.NewInt(int64(a.Low)).Cmp(kids[0][0]) >= 0) {
		return slow{}, api.ErrRange
	}
	if (a.Kind == api.AskAdd || a.Kind == api.AskSub) && kids[0][0].Cmp(kids[1][0]) != 0 {
		return slow{}, api.ErrFit
	}
	if leaf && len(a.Where) > 64 {
		return slow{}, api.ErrMuch
	}
	for _, t := range a.Where {
		if leaf && sizeOf(l, t.Column) == 0 {
			return slow{}, api.ErrName
		}
		if leaf && (t.Do < 1 || t.Do > 6) {
			return slow{}, api.ErrKind
		}
	}
	b := slowBound(l, a, kids)
	for i, limit := range []int64{4096, 1 << 40, 1 << 40} {
		if b[i].Cmp(big.NewInt(limit)) > 0 {
			return slow{}, api.ErrMuch
		}
	}
	return b, api.OK
}

func slowBound(l []api.Column, a api.Ask, kids []slow) slow {
	plus := func(i int) *big.Int { return new(big.Int).Add(kids[0][i], kids[1][i]) }
	by := func(n int, x *big.Int) *big.Int {
		return new(big.Int).Abs(new(big.Int).Mul(big.NewInt(int64(n)), x))
	}
	far := max(int64(a.Low), -int64(a.Low), int64(a.High), -int64(a.High))
	switch a.Kind {
	case api.AskCount:
		return slowOf(1, 1, 4096)
	case api.AskSum:
		return slowOf(1, far, 4096*far)
	case api.AskBins:
		return slowOf(sizeOf(l, a.Column), 1, 4096)
	case api.AskAdd, api.AskSub:
		return slow{kids[0][0], plus(1), plus(2)}
	case api.AskTimes:
		return slow{kids[0][0], by(a.Low, kids[0][1]), by(a.Low, kids[0][2])}
	case api.AskJoin:
		most := kids[0][2]
		if most.Cmp(kids[1][2]) < 0 {
			most = kids[1][2]
		}
		return slow{plus(0), plus(1), most}
	case api.AskTotal:
		return slow{big.NewInt(1), kids[0][1], new(big.Int).Mul(kids[0][0], kids[0][2])}
	case api.AskPick:
		return slow{big.NewInt(1), kids[0][1], kids[0][2]}
	}
	return slow{kids[0][0], kids[0][1], big.NewInt(far)}
}

// slowRun is the answer of a right question, of how many rows there are of each cell.
func slowRun(l []api.Column, cells []int, a api.Ask) []int {
	var kids [][]int
	for _, kid := range a.Kids {
		kids = append(kids, slowRun(l, cells, kid))
	}
	into := func(v int) int { s := []int{a.Low, v, a.High}; slices.Sort(s); return s[1] }
	var out []int
	switch a.Kind {
	case api.AskCount, api.AskSum:
		out = []int{0}
	case api.AskBins:
		out = make([]int, sizeOf(l, a.Column))
	case api.AskJoin:
		return slices.Concat(kids...)
	case api.AskPick:
		return []int{kids[0][a.Low]}
	case api.AskTotal:
		out = []int{0}
	}
	for i, n := range cells {
		row := map[string]int{}
		for j := len(l) - 1; j >= 0; j-- {
			row[l[j].Name] = i % l[j].Size
			i /= l[j].Size
		}
		if a.Kind > api.AskBins || slices.ContainsFunc(a.Where, func(t api.Test) bool { return !slowHolds(t, row[t.Column]) }) {
			continue
		}
		switch a.Kind {
		case api.AskCount:
			out[0] += n
		case api.AskSum:
			out[0] += n * into(row[a.Column])
		default:
			out[row[a.Column]] += n
		}
	}
	for i := 0; len(kids) > 0 && i < len(kids[0]); i++ {
		switch x := kids[0][i]; a.Kind {
		case api.AskAdd:
			out = append(out, x+kids[1][i])
		case api.AskSub:
			out = append(out, x-kids[1][i])
		case api.AskTimes:
			out = append(out, a.Low*x)
		case api.AskTotal:
			out[0] += x
		case api.AskClamp:
			out = append(out, into(x))
		}
	}
	return out
}

// slowHolds: each kind of test by what a comparison may be.
func slowHolds(t api.Test, v int) bool {
	return slices.Contains([][]int{nil, {0}, {-1}, {-1, 0}, {1}, {0, 1}, {-1, 1}}[t.Do], cmp.Compare(v, t.Value))
}

// slowPart gathers what all questions without kids say.
func slowPart(l []api.Column, a api.Ask, column string) (int, api.Errno) {
	if sizeOf(l, column) == 0 {
		return 0, api.ErrName
	}
	var said []int
	for work := []api.Ask{a}; len(work) > 0; work = work[1:] {
		work = append(work, work[0].Kids...)
		if len(work[0].Kids) > 0 {
			continue
		}
		at := slices.IndexFunc(work[0].Where, func(t api.Test) bool { return t.Do == api.TestIs && t.Column == column })
		if at < 0 {
			return 0, api.ErrNone
		}
		said = append(said, work[0].Where[at].Value)
	}
	if v := said[0]; slices.Min(said) == v && slices.Max(said) == v && v >= 0 && int64(v) < sizeOf(l, column) {
		return v, api.OK
	}
	return 0, api.ErrNone
}

// TestSweep holds all kinds of questions, right ones and wrong ones, against slow ways.
func TestSweep(t *testing.T) {
	seen := map[api.Errno]int{}
	parts := map[api.Errno]int{}
	for _, wrong := range []int{0, 1, 4} {
		d := dice{rand.New(rand.NewSource(int64(wrong))), wrong}
		for range 12000 {
			x, a := d.table(), d.ask(1+d.Intn(6))
			want, wantErr := slowType(x.Columns, a)
			seen[wantErr]++
			if wantErr != api.OK {
				holdWrong(t, "sweep", x, a, wantErr)
				continue
			}
			cells, _ := rows.Cells(x)
			holdRight(t, "sweep", x, a, want, slowRun(x.Columns, cells, a)...)
			for _, column := range []string{"age", "sex", "one", "none"} {
				v, err := slowPart(x.Columns, a, column)
				parts[err]++
				if got, gotErr := ask.Part(x.Columns, a, column); got != v || gotErr != err {
					t.Fatalf("Part of %v is %d, %d, not %d, %d", a, got, gotErr, v, err)
				}
			}
			if t.Failed() {
				return
			}
		}
	}
	for _, err := range []api.Errno{api.OK, api.ErrKind, api.ErrRange, api.ErrMuch, api.ErrMany, api.ErrName, api.ErrFit} {
		if seen[err] < 20 {
			t.Errorf("only %d questions are told %d", seen[err], err)
		}
	}
	if parts[api.OK] < 1000 || parts[api.ErrNone] < 1000 {
		t.Errorf("of parts: %v", parts)
	}
}

// TestBoundsHold: no place is above Most, and all places together move no further than Moves when a row comes or goes; a question of one part does not move when a row of another one does.
func TestBoundsHold(t *testing.T) {
	d := dice{rand.New(rand.NewSource(9)), 0}
	for range 3000 {
		x, a := d.table(), d.ask(5)
		bound, err := ask.Type(x.Columns, a)
		if err != api.OK {
			continue
		}
		here, _ := ask.Run(x, a)
		part, partErr := ask.Part(x.Columns, a, "age")
		cells, _ := rows.Cells(x)
		for near := range rows.Near(x) {
			there, err := ask.Run(near, a)
			if err != api.OK || len(there) != bound.Places {
				t.Fatalf("Run of %v near by is %v, %d", a, there, err)
			}
			moved := 0
			for i, v := range there {
				moved += max(v-here[i], here[i]-v)
				if max(v, -v) > bound.Most {
					t.Fatalf("%d is above the most of %v", v, bound)
				}
			}
			if moved > bound.Moves || partErr == api.OK && moved > 0 && changed(cells, near)/2 != part {
				t.Fatalf("%v moves by %d, from %v to %v: its bound is %v, its part %d", a, moved, x, near, bound, part)
			}
		}
	}
}

// changed is the first cell of which there are not as many rows; two of them are of one age.
func changed(cells []int, near api.Table) int {
	there, _ := rows.Cells(near)
	for i := range cells {
		if cells[i] != there[i] {
			return i
		}
	}
	return -1
}
