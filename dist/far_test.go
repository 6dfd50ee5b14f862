package dist_test

import (
	"testing"

	"hushhouse/api"
	"hushhouse/dist"
)

type farCase struct {
	name string
	a, b api.Dist
	want api.Ratio
	err  api.Errno
}

// testFar asks both ways round: two are as far from each other as the other way.
func testFar(t *testing.T, ask func(a, b api.Dist) (api.Ratio, api.Errno), cases []farCase) {
	t.Helper()
	for _, c := range cases {
		if dist.Wrong(c.a) != api.OK || dist.Wrong(c.b) != api.OK {
			t.Fatalf("%s: no distributions", c.name)
		}
		if got, err := ask(c.a, c.b); got != c.want || err != c.err {
			t.Errorf("%s: %v, %d comes, not %v, %d", c.name, got, err, c.want, c.err)
		}
		if got, err := ask(c.b, c.a); got != c.want || err != c.err {
			t.Errorf("%s, the other way: %v, %d comes, not %v, %d", c.name, got, err, c.want, c.err)
		}
	}
}

func TestFar(t *testing.T) {
	const m = api.MaxPart
	testFar(t, dist.Far, []farCase{
		{"the document's", api.Dist{p(1, 0), p(3, 1)}, api.Dist{p(1, 0), p(1, 1)}, api.Ratio{Up: 2, Down: 1}, api.OK},
		{"the same", api.Dist{p(1, 0), p(3, 1)}, api.Dist{p(1, 0), p(3, 1)}, api.Ratio{Up: 1, Down: 1}, api.OK},
		{"certain", api.Dist{p(1, 7)}, api.Dist{p(1, 7)}, api.Ratio{Up: 1, Down: 1}, api.OK},
		{"without numbers", api.Dist{p(1), p(1, 0)}, api.Dist{{Out: []int{}, Weight: 2}, p(1, 0)}, api.Ratio{Up: 3, Down: 2}, api.OK},
		{"in lowest terms", api.Dist{p(1, 0), p(2, 1)}, api.Dist{p(2, 0), p(3, 1)}, api.Ratio{Up: 6, Down: 5}, api.OK},
		{"of the first", api.Dist{p(1, 0), p(4, 1), p(4, 2)}, api.Dist{p(1, 0), p(1, 1), p(1, 2)}, api.Ratio{Up: 3, Down: 1}, api.OK},
		{"of the second", api.Dist{p(4, 0), p(1, 1), p(4, 2)}, api.Dist{p(1, 0), p(1, 1), p(1, 2)}, api.Ratio{Up: 3, Down: 1}, api.OK},
		{"of the last", api.Dist{p(4, 0), p(4, 1), p(1, 2)}, api.Dist{p(1, 0), p(1, 1), p(1, 2)}, api.Ratio{Up: 3, Down: 1}, api.OK},
		{"just MaxPart", api.Dist{p(1, 0), p(m-1, 1)}, api.Dist{p(1, 0), p(m-2, 1)}, api.Ratio{Up: m, Down: m - 1}, api.OK},
		{"just above MaxPart", api.Dist{p(325, 0), p(m/2-325, 1)}, api.Dist{p(1, 0), p(3303820, 1)}, api.Ratio{}, api.ErrMuch},
		{"above MaxPart", api.Dist{p(3, 0), p(m-3, 1)}, api.Dist{p(1, 0), p(m-2, 1)}, api.Ratio{}, api.ErrMuch},
		{"the greatest", api.Dist{p(1, 0), p(m-1, 1)}, api.Dist{p(m-1, 0), p(1, 1)}, api.Ratio{Up: m - 1, Down: 1}, api.OK},
	})
}

func TestFarIsOfTheGreatestAlone(t *testing.T) {
	// The chances of 0 are 1/2 and 1/4; those of the others are nearer, in parts beyond MaxPart.
	const a, b = 1<<20 + 4, 1<<20 + 12
	testFar(t, dist.Far, []farCase{{"too fine beside the greatest",
		api.Dist{p(a, 0), p(a/2-1, 1), p(a/2+1, 2)},
		api.Dist{p(b, 0), p(3*b/2-1, 1), p(3*b/2+1, 2)},
		api.Ratio{Up: 2, Down: 1}, api.OK}})
}

func TestFarNone(t *testing.T) {
	one, two := api.Dist{p(1, 1)}, api.Dist{p(1, 0), p(1, 1)}
	fine := api.Dist{p(1, 0), p(api.MaxPart-2, 1)}
	finer := api.Dist{p(3, 0), p(api.MaxPart-4, 1), p(1, 2)}
	testFar(t, dist.Far, []farCase{
		{"one more ahead", one, two, api.Ratio{}, api.ErrNone},
		{"one more behind", api.Dist{p(1, 0)}, two, api.Ratio{}, api.ErrNone},
		{"as many", two, api.Dist{p(1, 0), p(1, 2)}, api.Ratio{}, api.ErrNone},
		{"others", one, api.Dist{p(1, 2)}, api.Ratio{}, api.ErrNone},
		{"the beginning", one, api.Dist{p(1, 1, 0)}, api.Ratio{}, api.ErrNone},
		{"ErrNone ahead of ErrMuch", fine, finer, api.Ratio{}, api.ErrNone},
	})
}

func TestApart(t *testing.T) {
	const m = api.MaxPart
	testFar(t, dist.Apart, []farCase{
		{"the document's", api.Dist{p(1, 0), p(3, 1)}, api.Dist{p(1, 0), p(1, 1)}, api.Ratio{Up: 1, Down: 4}, api.OK},
		{"the same", api.Dist{p(1, 0), p(3, 1)}, api.Dist{p(1, 0), p(3, 1)}, api.Ratio{Up: 0, Down: 1}, api.OK},
		{"nothing together", api.Dist{p(1, 0), p(3, 2)}, api.Dist{p(1, 1), p(1, 3)}, api.Ratio{Up: 1, Down: 1}, api.OK},
		{"one together", api.Dist{p(1, 0), p(1, 1)}, api.Dist{p(1, 1), p(1, 2)}, api.Ratio{Up: 1, Down: 2}, api.OK},
		{"the beginning", api.Dist{p(1, 0)}, api.Dist{p(1, 0), p(2, 0, 0)}, api.Ratio{Up: 2, Down: 3}, api.OK},
		{"likelier in two places", api.Dist{p(3, 0), p(1, 1), p(3, 2), p(1, 3)}, evens(0, 4), api.Ratio{Up: 1, Down: 4}, api.OK},
		{"other totals", api.Dist{p(1, 0), p(2, 1)}, api.Dist{p(2, 0), p(3, 1)}, api.Ratio{Up: 1, Down: 15}, api.OK},
		{"just MaxPart", api.Dist{p(1, 0), p(m-1, 1)}, api.Dist{p(1, 1)}, api.Ratio{Up: 1, Down: m}, api.OK},
		{"just above MaxPart", api.Dist{p(1, 0), p(324, 1)}, api.Dist{p(1, 0), p(3303820, 1)}, api.Ratio{}, api.ErrMuch},
		{"far above MaxPart", api.Dist{p(1, 0), p(m-1, 1)}, api.Dist{p(1, 0), p(m-2, 1)}, api.Ratio{}, api.ErrMuch},
		{"nearly all", api.Dist{p(1, 0), p(m-1, 1)}, api.Dist{p(m-1, 0), p(1, 1)}, api.Ratio{Up: m/2 - 1, Down: m / 2}, api.OK},
	})
}
