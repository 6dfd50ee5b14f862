package noise_test

import (
	"math"
	"math/big"
	"slices"
	"testing"

	"hushhouse/api"
	"hushhouse/ask"
	"hushhouse/dist"
	"hushhouse/noise"
	"hushhouse/rows"
)

// people are three rows of two columns.
func people() api.Table {
	return api.Table{Columns: []api.Column{{Name: "age", Size: 4}, {Name: "sex", Size: 2}}, Rows: [][]int{{3, 1}, {0, 0}, {2, 1}}}
}

func count(where ...api.Test) api.Ask { return api.Ask{Kind: api.AskCount, Where: where} }

func bins(column string) api.Ask { return api.Ask{Kind: api.AskBins, Column: column} }

func sum(low, high int) api.Ask {
	return api.Ask{Kind: api.AskSum, Column: "age", Low: low, High: high}
}

func made(kind, low int, kids ...api.Ask) api.Ask { return api.Ask{Kind: kind, Low: low, Kids: kids} }

func girls() api.Test { return api.Test{Column: "sex", Do: api.TestIs, Value: 1} }

func holdAnswer(t *testing.T, what string, r api.Ratio, low, high int, x api.Table, a api.Ask, want []api.Dist, lost api.Ratio, werr api.Errno) {
	t.Helper()
	told, loss, err := noise.Answer(r, low, high, x, a)
	holdAll(t, what, told, err, want, werr)
	holdRatio(t, what, loss, err, lost, werr)
}

func TestN3Answer(t *testing.T) {
	none, one, two, three := line(0, 8, 2, 1, 1), line(0, 2, 2, 1, 1), line(0, 1, 1, 2, 2), line(0, 1, 1, 2, 8)
	for _, x := range []struct {
		name string
		a    api.Ask
		want []api.Dist
		lost api.Ratio
	}{
		{"count", count(), []api.Dist{three}, f(2, 1)},
		{"count of some", count(girls()), []api.Dist{two}, f(2, 1)},
		{"bins", bins("sex"), []api.Dist{one, two}, f(2, 1)},
		{"bins of four", bins("age"), []api.Dist{one, none, one, one}, f(2, 1)},
		{"a sum that is brought in", sum(0, 3), []api.Dist{three}, f(8, 1)},
		{"a sum that does not move", sum(0, 0), []api.Dist{none}, f(1, 1)},
		{"a sum that is far below", sum(-30, -9), []api.Dist{none}, f(most, 1)},
		{"nothing of a count", made(api.AskTimes, 0, count()), []api.Dist{none}, f(1, 1)},
		{"two", made(api.AskJoin, 0, count(girls()), bins("sex")), []api.Dist{two, one, two}, f(4, 1)},
		{"less", made(api.AskSub, 0, count(), count(girls())), []api.Dist{one}, f(4, 1)},
		{"five times less", made(api.AskTimes, -5, count()), []api.Dist{none}, f(32, 1)},
	} {
		holdAnswer(t, x.name, f(2, 1), 0, 3, people(), x.a, x.want, x.lost, api.OK)
	}
	holdAnswer(t, "by 1", f(1, 1), 0, 3, people(), sum(0, api.MaxOuts), []api.Dist{line(0, 1, 0, 0, 1)}, f(1, 1), api.OK)
	holdAnswer(t, "of nobody", f(3, 2), 0, 2, api.Table{Columns: people().Columns}, count(), []api.Dist{line(0, 9, 2, 4)}, f(3, 2), api.OK)
	holdAnswer(t, "one number", f(3, 2), 7, 7, people(), bins("sex"), []api.Dist{line(7, 1), line(7, 1)}, f(3, 2), api.OK)
}

// TestN3AnswerPlaces: as many places as a question may have.
func TestN3AnswerPlaces(t *testing.T) {
	x := api.Table{Columns: []api.Column{{Name: "all", Size: api.MaxCells}}, Rows: [][]int{{7}, {4095}, {4095}}}
	told, lost, err := noise.Answer(f(5, 4), 0, 2, x, bins("all"))
	if err != api.OK || lost != f(5, 4) || len(told) != api.MaxCells {
		t.Fatalf("%d places, %v, %d", len(told), lost, err)
	}
	for i, got := range told {
		want, _ := noise.Hide(f(5, 4), 0, 2, map[int]int{7: 1, 4095: 2}[i])
		holdDist(t, "a place", got, api.OK, want, api.OK)
	}
}

// TestN3AnswerOrder: what Run says ahead of what HideAll says, and that ahead of what Lost says.
func TestN3AnswerOrder(t *testing.T) {
	type tabled struct {
		x   api.Table
		err api.Errno
	}
	wrongRow := people()
	wrongRow.Rows[2][1] = 2
	tables := []tabled{{api.Table{}, api.ErrMany}, {wrongRow, rows.Wrong(wrongRow)}, {people(), api.OK}}
	type asked struct {
		a   api.Ask
		err api.Errno
	}
	asks := []asked{
		{api.Ask{}, api.ErrKind}, {bins("none"), api.ErrName}, {sum(1, 0), api.ErrRange}, {made(api.AskTotal, 0), api.ErrMany},
		{made(api.AskAdd, 0, count(), bins("sex")), api.ErrFit}, {made(api.AskTimes, 1<<20, sum(0, 1<<20)), api.ErrMuch}, {count(), api.OK},
	}
	type hid struct {
		r         api.Ratio
		low, high int
		err       api.Errno
	}
	hides := []hid{
		{f(2, 2), 1, 0, api.ErrForm}, {f(2, 4), 0, 3, api.ErrForm}, {f(1, 2), 0, 3, api.ErrRange}, {f(0, 1), 0, 3, api.ErrRange},
		{f(2, 1), 1, 0, api.ErrRange}, {f(2, 1), 0, 65, api.ErrRange}, {f(2, 1), 0, 29, api.ErrMuch}, {f(2, 1), 0, 3, api.OK},
	}
	for _, x := range tables {
		for _, a := range asks {
			for _, h := range hides {
				want := x.err
				if want == api.OK {
					want = a.err
				}
				if want == api.OK {
					want = h.err
				}
				told, lost, err := noise.Answer(h.r, h.low, h.high, x.x, a.a)
				if err != want || err != api.OK && (len(told) > 0 || lost != api.Ratio{}) {
					t.Errorf("Answer is %v, %v, %d, not %d", told, lost, err, want)
				}
			}
		}
	}
	for _, h := range hides {
		for moves, want := range map[int]api.Errno{30: api.OK, 31: api.ErrMuch, api.MaxOuts: api.ErrMuch, api.MaxOuts + 1: api.ErrRange, api.MaxValue: api.ErrRange} {
			if h.err != api.OK {
				want = h.err
			}
			told, lost, err := noise.Answer(h.r, h.low, h.high, people(), sum(0, moves))
			if err != want || err != api.OK && (len(told) > 0 || lost != api.Ratio{}) {
				t.Errorf("Answer that moves by %d is %v, %v, %d, not %d", moves, told, lost, err, want)
			}
		}
	}
	if rows.Wrong(wrongRow) == api.OK {
		t.Error("the table is not wrong")
	}
}

// TestN3AnswerMoves: as many moves as a loss may be multiplied with, and one more, where no power is too much.
func TestN3AnswerMoves(t *testing.T) {
	for _, x := range []struct {
		moves int
		err   api.Errno
	}{{0, api.OK}, {1, api.OK}, {api.MaxOuts, api.OK}, {api.MaxOuts + 1, api.ErrRange}} {
		want, lost := []api.Dist{line(-1, 1, 0, 1)}, f(1, 1)
		if x.err != api.OK {
			want, lost = nil, f(0, 0)
		}
		holdAnswer(t, "sum", f(1, 1), -1, 1, people(), sum(0, x.moves), want, lost, x.err)
		holdAnswer(t, "times", f(1, 1), -1, 1, people(), made(api.AskTimes, -x.moves, count()), want, lost, x.err)
	}
}

// TestN3AnswerIsItsParts holds Answer against the calls that it is made of.
func TestN3AnswerIsItsParts(t *testing.T) {
	for _, a := range someAsks() {
		for _, r := range slices.Concat(losses, below, notRight[:5]) {
			for _, w := range [][2]int{{0, 3}, {-2, 1}, {2, 2}, {1, 0}, {0, 64}, {math.MinInt, 0}} {
				numbers, err := ask.Run(people(), a)
				var want []api.Dist
				var lost api.Ratio
				if err == api.OK {
					want, err = noise.HideAll(r, w[0], w[1], numbers)
				}
				if err == api.OK {
					bound, _ := ask.Type(people().Columns, a)
					if lost, err = noise.Lost(r, bound.Moves); err != api.OK {
						want = nil
					}
				}
				holdAnswer(t, "Answer", r, w[0], w[1], people(), a, want, lost, err)
			}
		}
	}
}

// someAsks are questions of every kind, and wrong ones.
func someAsks() []api.Ask {
	return []api.Ask{
		count(), count(girls()), sum(-1, 2), sum(0, 40), bins("age"), bins("sex"), made(api.AskAdd, 0, count(), sum(0, 1)),
		made(api.AskSub, 0, bins("sex"), bins("sex")), made(api.AskTimes, -2, bins("age")), made(api.AskJoin, 0, bins("age"), count(girls())),
		made(api.AskTotal, 0, bins("age")), made(api.AskPick, 3, bins("age")), {Kind: api.AskClamp, Low: 0, High: 1, Kids: []api.Ask{sum(0, 3)}},
		{}, {Kind: 11}, bins("none"), made(api.AskPick, 4, bins("age")), made(api.AskJoin, 0, count()),
	}
}

// TestN3NobodyIsSeen: with one row more or less all places together are told at most as many times likelier as Answer says.
func TestN3NobodyIsSeen(t *testing.T) {
	for _, a := range someAsks() {
		for _, r := range []api.Ratio{f(1, 1), f(2, 1), f(4, 3)} {
			told, lost, err := noise.Answer(r, -1, 4, people(), a)
			if err != api.OK {
				continue
			}
			for near := range rows.Near(people()) {
				other, same, err := noise.Answer(r, -1, 4, near, a)
				if err != api.OK || same != lost || len(other) != len(told) {
					t.Fatalf("Answer of a table that is near is %v, %v, %d", other, same, err)
				}
				all := big.NewRat(1, 1)
				for i := range told {
					far, err := dist.Far(told[i], other[i])
					if err != api.OK {
						t.Fatalf("Far is %d", err)
					}
					all.Mul(all, big.NewRat(int64(far.Up), int64(far.Down)))
				}
				if all.Cmp(big.NewRat(int64(lost.Up), int64(lost.Down))) > 0 {
					t.Errorf("%v is lost by %v, and %v is told", all, a, lost)
				}
			}
		}
	}
}
