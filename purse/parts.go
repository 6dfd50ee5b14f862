package purse

import (
	"maps"
	"slices"

	"hushhouse/api"
	"hushhouse/ratio"
)

// purse has a budget, the product of what was spent on all, and that of what was spent on each part on which something was.
type purse struct {
	budget, all api.Ratio
	parts       map[int]api.Ratio
}

// opened is a purse of which nothing is spent: a product of no losses is 1.
func opened(budget api.Ratio) purse {
	return purse{budget: budget, all: one(), parts: map[int]api.Ratio{}}
}

func one() api.Ratio { return api.Ratio{Up: 1, Down: 1} }

// onAll is the purse when a loss more is spent on all.
func (p purse) onAll(loss api.Ratio) (purse, api.Errno) {
	all, err := ratio.Times(p.all, loss)
	if err != api.OK {
		return purse{}, err
	}
	p.all = all
	return p.checked()
}

// onPart is the purse when a loss more is spent on one part; its map is a new one, for the purse as it was is still in the book.
func (p purse) onPart(part int, loss api.Ratio) (purse, api.Errno) {
	if part < 0 || part > api.MaxNum {
		return purse{}, api.ErrRange
	}
	before, there := p.parts[part]
	if !there {
		before = one()
	}
	if !there && len(p.parts) >= api.MaxParts {
		return purse{}, api.ErrMany
	}
	product, err := ratio.Times(before, loss)
	if err != api.OK {
		return purse{}, err
	}
	p.parts = maps.Clone(p.parts)
	p.parts[part] = product
	return p.checked()
}

// checked is the purse itself, if what is spent of it can be told and is no more than the budget.
func (p purse) checked() (purse, api.Errno) {
	spent, err := p.spent()
	if err != api.OK {
		return purse{}, err
	}
	if more(spent, p.budget) {
		return purse{}, api.ErrBudget
	}
	return p, api.OK
}

// spent is what was spent on all, times the most that was spent on one part: who is in one part loses nothing by what is told of another one.
func (p purse) spent() (api.Ratio, api.Errno) {
	most := one()
	for _, part := range slices.Sorted(maps.Keys(p.parts)) {
		if product := p.parts[part]; more(product, most) {
			most = product
		}
	}
	return ratio.Times(p.all, most)
}

// more tells of two right fractions, of which Order finds no fault.
func more(a, b api.Ratio) bool {
	order, _ := ratio.Order(a, b)
	return order > 0
}
