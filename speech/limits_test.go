package speech_test

import (
	"strings"
	"testing"

	"hushhouse/api"
)

const most = api.MaxAsk

// lays are ways to lay a question one level higher: what stands ahead of it, what behind it, and what is meant.
func lays() []struct {
	ahead, behind string
	means         func(api.Ask) api.Ask
} {
	return []struct {
		ahead, behind string
		means         func(api.Ask) api.Ask
	}{
		{"(", ")", func(a api.Ask) api.Ask { return a }},
		{"2*", "", func(a api.Ask) api.Ask { return times(2, a) }},
		{"-3 *\n", "", func(a api.Ask) api.Ask { return times(-3, a) }},
		{"total(", ")", total},
		{"clamp 1..2(", ")", func(a api.Ask) api.Ask { return clamp(1, 2, a) }},
		{"join(", ",count)", func(a api.Ask) api.Ask { return join(a, count()) }},
		{"count-(", ")", func(a api.Ask) api.Ask { return sub(count(), a) }},
	}
}

func TestLevels(t *testing.T) {
	for _, x := range lays() {
		ahead, behind := strings.Repeat(x.ahead, most), strings.Repeat(x.behind, most)
		holdRead(t, ahead[len(x.ahead):]+"count"+behind[len(x.behind):], repeated(most-1, count(), x.means))
		at := len(ahead)
		holdFault(t, ahead+"count"+behind, api.ErrMuch, at)
		// whatever stands there
		for _, s := range []string{"", ")", "01", "1048577", "-", "in", "+", "(", "2 * count", "total", strings.Repeat("(", 70), "count" + strings.Repeat("[0]", 70)} {
			holdFault(t, ahead+s, api.ErrMuch, at)
			holdFault(t, ahead+" "+s, api.ErrMuch, at+1)
		}
		// and what stands ahead of it must be right
		holdFault(t, ahead[len(x.ahead):]+")", api.ErrForm, at-len(x.ahead))
	}
	second := strings.Repeat("join(count,", most-1)
	holdRead(t, second+"count"+strings.Repeat(")", most-1), repeated(most-1, count(), func(a api.Ask) api.Ask { return join(count(), a) }))
	holdFault(t, second+"join(count,count)", api.ErrMuch, len(second)+5)

	start := strings.Repeat("(", most-1)
	for _, x := range []faultCase{
		{"2", api.ErrForm, 1}, {"2 count", api.ErrForm, 2}, {"total", api.ErrForm, 5}, {"total count", api.ErrForm, 6}, {"clamp 1..", api.ErrForm, 9},
		{"2 *", api.ErrMuch, 3}, {"total (", api.ErrMuch, 7}, {"join(", api.ErrMuch, 5}, {"clamp 0..0 (\n", api.ErrMuch, 13},
		{"count + 2 * count", api.ErrMuch, 12}, {"count[1048577]", api.ErrRange, 6}, {"1048577 *", api.ErrRange, 0},
	} {
		holdFault(t, start+x.s, x.err, len(start)+x.at)
	}
}

// TestLevelsMixed: signs, picks and tests are on no level of their own, brackets behind a product are two above it.
func TestLevelsMixed(t *testing.T) {
	deep := strings.Repeat("2*(", most/2)
	holdFault(t, deep+"count", api.ErrMuch, len(deep)) // 1 + 64
	deep = deep[3:]
	back := strings.Repeat(")", most/2-1)
	inside := repeated(most/2-1, count(), func(a api.Ask) api.Ask { return times(2, a) })
	holdRead(t, deep+"count"+back, inside)
	holdRead(t, deep+"2*count"+back, repeated(most/2-1, times(2, count()), func(a api.Ask) api.Ask { return times(2, a) }))
	holdFault(t, deep+"2*3*count"+back, api.ErrMuch, len(deep)+4)
	holdFault(t, deep+"2*(count)"+back, api.ErrMuch, len(deep)+3)
	holdRead(t, deep+"(count)"+back, inside)

	// a level is left again where what is on it ends
	full := strings.Repeat("2*", most-1) + "count"
	holdRead(t, full+"+"+full+"-"+full, sub(add(twos(), twos()), twos()))
	holdRead(t, full+"[1]+"+strings.Repeat("(", most-1)+"count"+strings.Repeat(")", most-1), add(repeated(most-1, pick(1, count()), func(a api.Ask) api.Ask { return times(2, a) }), count()))
	under := full[2:]
	holdRead(t, "join("+under+","+under+")", join(twos().Kids[0], twos().Kids[0]))
	holdFault(t, "join("+under+","+full+")", api.ErrMuch, 5+len(under)+1+2*(most-1))
	holdFault(t, full+"+2*"+full, api.ErrMuch, len(full)+1+2*most)
}

// twos is a question with a product on each level.
func twos() api.Ask {
	return repeated(most-1, count(), func(a api.Ask) api.Ask { return times(2, a) })
}

func TestSignsOfASum(t *testing.T) {
	for _, sign := range []string{"+", "-"} {
		around := func(a api.Ask) api.Ask { return add(a, count()) }
		if sign == "-" {
			around = func(a api.Ask) api.Ask { return sub(a, count()) }
		}
		right := "count" + strings.Repeat(sign+"count", most)
		want := repeated(most, count(), around)
		holdRead(t, right, want)
		for _, s := range []string{"", "count", ")", "1048577", strings.Repeat("(", 70)} {
			holdFault(t, right+"+"+s, api.ErrMuch, len(right))
			holdFault(t, right+" -"+s, api.ErrMuch, len(right)+1)
			holdFault(t, "("+right+"-"+s, api.ErrMuch, len(right)+1)
		}
		// sums in brackets, and products, are others
		holdRead(t, "("+right+")+("+right+")", add(want, want))
		holdRead(t, "count-2*("+right+")[0]", sub(count(), times(2, pick(0, want))))
		holdRead(t, "join("+right+","+right+")", join(want, want))
		holdFault(t, right+")", api.ErrForm, len(right))
	}
	mixed := "count" + strings.Repeat("+count-count", most/2)
	holdRead(t, mixed, repeated(most/2, count(), func(a api.Ask) api.Ask { return sub(add(a, count()), count()) }))
	holdFault(t, mixed+"+count", api.ErrMuch, len(mixed))
	inner := "count" + strings.Repeat("+(count+count)", most)
	holdRead(t, inner, repeated(most, count(), func(a api.Ask) api.Ask { return add(a, add(count(), count())) }))
	holdFault(t, inner+"+", api.ErrMuch, len(inner))
}

func TestPicks(t *testing.T) {
	right := "count" + strings.Repeat("[7]", most)
	want := repeated(most, count(), func(a api.Ask) api.Ask { return pick(7, a) })
	holdRead(t, right, want)
	for _, s := range []string{"", "0]", "]", "1048577]", "a"} {
		holdFault(t, right+"["+s, api.ErrMuch, len(right))
		holdFault(t, "2*"+right+" ["+s, api.ErrMuch, len(right)+3)
	}
	holdRead(t, right+"+"+right, add(want, want))
	holdRead(t, "("+right+")[7]", pick(7, want))
	holdRead(t, "("+right+")"+right[5:], repeated(2*most, count(), func(a api.Ask) api.Ask { return pick(7, a) }))
	holdFault(t, "("+right+")"+right[5:]+"[0]", api.ErrMuch, 2*len(right)-5+2)
}

func TestAnds(t *testing.T) {
	right := "where a=1" + strings.Repeat(" and a=1", most-1)
	var tests []api.Test
	for range most {
		tests = append(tests, is("a", 1))
	}
	holdRead(t, "count "+right, count(tests...))
	holdRead(t, "bins b "+right, bins("b", tests...))
	holdRead(t, "sum b in 1..2 "+right, sum("b", 1, 2, tests...))
	for _, s := range []string{"", " a=1", " 1", " and", " in=1"} {
		holdFault(t, "count "+right+" and"+s, api.ErrMuch, 6+len(right)+1)
		holdFault(t, "sum b in 1..2 "+right+"and"+s, api.ErrMuch, 14+len(right))
	}
	holdRead(t, "count "+right+"-count "+right, sub(count(tests...), count(tests...)))
	holdFault(t, "count "+right+" where a=1", api.ErrForm, 6+len(right)+1)
}

func TestLengthOfTexts(t *testing.T) {
	pad := func(s string, n int) string { return s + strings.Repeat(" ", n-len(s)) }
	holdRead(t, pad("count", api.MaxText), count())
	holdFault(t, pad("count", api.MaxText+1), api.ErrMuch, 0)
	holdFault(t, pad("", api.MaxText), api.ErrForm, api.MaxText)
	holdFault(t, pad("count where", api.MaxText), api.ErrForm, api.MaxText)
	holdFault(t, pad("", api.MaxText+1), api.ErrMuch, 0)
	holdFault(t, strings.Repeat("?", api.MaxText), api.ErrForm, 0)
	holdFault(t, strings.Repeat("?", api.MaxText+1), api.ErrMuch, 0)
	holdFault(t, strings.Repeat("x", api.MaxText), api.ErrForm, 0)
	holdFault(t, strings.Repeat("1", api.MaxText), api.ErrRange, 0)
	holdFault(t, strings.Repeat("(", api.MaxText), api.ErrMuch, most)
	holdFault(t, strings.Repeat("(", api.MaxText+1), api.ErrMuch, 0)
	holdFault(t, strings.Repeat("-", api.MaxText), api.ErrForm, 1)
	holdFault(t, strings.Repeat("x", 1<<20), api.ErrMuch, 0)
}
