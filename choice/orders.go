package choice

// orders goes through all orders of some scores.
type orders struct {
	below
	gone   []bool // whose coins have said no
	chosen []int  // in how many ways each one is chosen, so far
}

// next goes through all orders of the scores that are left. In so many ways, of all that orders and coins may come in, those ahead of them are gone.
func (o *orders) next(left, ways int) {
	// Of those that are left each one comes next in as many orders as each other, and its coin falls in as many ways whatever the coins ahead said: both divide without a rest.
	each := ways / left
	for i, m := range o.far {
		if o.gone[i] {
			continue
		}
		yes := each / power(o.up, m) * power(o.down, m)
		o.chosen[i] += yes
		if yes == each {
			continue // no coin behind it is ever asked: so it is with a greatest score, which is therefore never gone
		}
		o.gone[i] = true
		o.next(left-1, each-yes)
		o.gone[i] = false
	}
}
