package speech_test

import (
	"strings"
	"testing"

	"hushhouse/api"
)

type faultCase struct {
	s   string
	err api.Errno
	at  int
}

func holdFaults(t *testing.T, cases []faultCase) {
	t.Helper()
	for _, x := range cases {
		holdFault(t, x.s, x.err, x.at)
	}
}

func TestBytesThatBeginNoPiece(t *testing.T) {
	for i := range 256 {
		b := string([]byte{byte(i)})
		if strings.Contains("abcdefghijklmnopqrstuvwxyz_0123456789+-*()[],=<> \n", b) {
			continue
		}
		holdFault(t, b, api.ErrForm, 0)
		holdFault(t, "count"+b, api.ErrForm, 5)
		holdFault(t, "count "+b+" where", api.ErrForm, 6)
	}
	holdFaults(t, []faultCase{
		{"sum age in 1.4", api.ErrForm, 12},
		{"sum age in 1. .4", api.ErrForm, 12},
		{"sum age in 1...4", api.ErrForm, 14},
		{"sum age in 1.", api.ErrForm, 12},
		{"sum age in 1....4", api.ErrForm, 14}, // two signs, each of which is one
		{"count where \u00e4 = 1", api.ErrForm, 12},
		{"count\t", api.ErrForm, 5},
		{"count\r\n", api.ErrForm, 5},
		// they are told ahead of all else that is wrong, wherever they stand
		{") count ?", api.ErrForm, 8},
		{"1048577 * count ?", api.ErrForm, 16},
		{"01 Count", api.ErrForm, 3},
		{strings.Repeat("2 * ", 70) + "count;", api.ErrForm, 285},
		{"count" + strings.Repeat("+count", 70) + "!", api.ErrForm, 425},
		{"? ?", api.ErrForm, 0},
	})
}

func TestSignsOfTwoBytes(t *testing.T) {
	holdFaults(t, []faultCase{
		{"count where a < = 1", api.ErrForm, 16},
		{"count where a > = 1", api.ErrForm, 16},
		{"count where a < > 1", api.ErrForm, 16},
		{"count where a =< 1", api.ErrForm, 15},
		{"count where a => 1", api.ErrForm, 15},
		{"count where a >< 1", api.ErrForm, 15},
		{"count where a == 1", api.ErrForm, 15},
		{"count where a <<= 1", api.ErrForm, 15},
		{"count where a <>= 1", api.ErrForm, 16},
		{"count where a <=> 1", api.ErrForm, 16},
		{"count where a .. 1", api.ErrForm, 14},
	})
}

func TestPiecesThatCannotGoOn(t *testing.T) {
	holdFaults(t, []faultCase{
		// where a question begins
		{"a", api.ErrForm, 0},
		{"counts", api.ErrForm, 0},
		{"where a = 1", api.ErrForm, 0},
		{"and", api.ErrForm, 0},
		{"in", api.ErrForm, 0},
		{"+ count", api.ErrForm, 0},
		{"* count", api.ErrForm, 0},
		{") count", api.ErrForm, 0},
		{"[0]", api.ErrForm, 0},
		{", count", api.ErrForm, 0},
		{"= 1", api.ErrForm, 0},
		{".. 1", api.ErrForm, 0},
		{"()", api.ErrForm, 1},
		// products
		{"- count", api.ErrForm, 2},
		{"- - 1 * count", api.ErrForm, 2},
		{"2 count", api.ErrForm, 2},
		{"2 + count", api.ErrForm, 2},
		{"2 (count)", api.ErrForm, 2},
		{"count * 2", api.ErrForm, 6},
		{"2 * * count", api.ErrForm, 4},
		{"2 * + count", api.ErrForm, 4},
		{"2 * )", api.ErrForm, 4},
		{"2 * 3", api.ErrForm, 5},
		{"(2) * count", api.ErrForm, 2},
		// sums
		{"count + + count", api.ErrForm, 8},
		{"count - * count", api.ErrForm, 8},
		{"count count", api.ErrForm, 6},
		{"count 2 * count", api.ErrForm, 6},
		{"count (count)", api.ErrForm, 6},
		{"count, count", api.ErrForm, 5},
		{"count - count)", api.ErrForm, 13},
		// picks
		{"count[]", api.ErrForm, 6},
		{"count[-1]", api.ErrForm, 6},
		{"count[a]", api.ErrForm, 6},
		{"count[count]", api.ErrForm, 6},
		{"count[1 2]", api.ErrForm, 8},
		{"count[1..2]", api.ErrForm, 7},
		{"count[1)", api.ErrForm, 7},
		{"count]", api.ErrForm, 5},
		{"count[1] where a = 1", api.ErrForm, 9},
		{"2[1] * count", api.ErrForm, 1},
		// things
		{"bins", api.ErrForm, 4},
		{"bins (a)", api.ErrForm, 5},
		{"bins 1", api.ErrForm, 5},
		{"bins a in 1..2", api.ErrForm, 7},
		{"bins a, b", api.ErrForm, 6},
		{"count a", api.ErrForm, 6},
		{"count in 1..2", api.ErrForm, 6},
		{"sum in in 1..2", api.ErrForm, 4},
		{"sum a 1..2", api.ErrForm, 6},
		{"sum a where b = 1", api.ErrForm, 6},
		{"sum a in 1", api.ErrForm, 10},
		{"sum a in 1 2", api.ErrForm, 11},
		{"sum a in ..2", api.ErrForm, 9},
		{"sum a in 1..", api.ErrForm, 12},
		{"sum a in 1..b", api.ErrForm, 12},
		{"sum a in (1..2)", api.ErrForm, 9},
		{"total count", api.ErrForm, 6},
		{"total ()", api.ErrForm, 7},
		{"total (count, count)", api.ErrForm, 12},
		{"total[0]", api.ErrForm, 5},
		{"clamp (count)", api.ErrForm, 6},
		{"clamp 1 (count)", api.ErrForm, 8},
		{"clamp 1..2 count", api.ErrForm, 11},
		{"clamp 1..2 in (count)", api.ErrForm, 11},
		{"clamp a in 1..2 (count)", api.ErrForm, 6},
		{"join count, count", api.ErrForm, 5},
		{"join (count)", api.ErrForm, 11},
		{"join (count count)", api.ErrForm, 12},
		{"join (, count)", api.ErrForm, 6},
		{"join (count,)", api.ErrForm, 12},
		{"join (count, count, count)", api.ErrForm, 18},
		{"(count]", api.ErrForm, 6},
		{"(count, count)", api.ErrForm, 6},
		// tests
		{"count where 1 = a", api.ErrForm, 12},
		{"count where a", api.ErrForm, 13},
		{"count where a 1", api.ErrForm, 14},
		{"count where a = b", api.ErrForm, 16},
		{"count where a + 1", api.ErrForm, 14},
		{"count where (a = 1)", api.ErrForm, 12},
		{"count where a = (1)", api.ErrForm, 16},
		{"count where a = 1 where b = 1", api.ErrForm, 18},
		{"count where a = 1, b = 1", api.ErrForm, 17},
		{"count where a = 1 b = 1", api.ErrForm, 18},
		{"count where a = 1 and and b = 1", api.ErrForm, 22},
		{"count where and a = 1", api.ErrForm, 12},
		{"count and a = 1", api.ErrForm, 6},
		{"count where a = 1..2", api.ErrForm, 17},
		{"count where a = 1 = 2", api.ErrForm, 18},
		{"total (count) where a = 1", api.ErrForm, 14},
		{"(count) where a = 1", api.ErrForm, 8},
	})
}

func TestNoNames(t *testing.T) {
	for _, s := range []string{"count", "sum", "bins", "total", "join", "clamp", "where", "and", "in", strings.Repeat("z", 33), strings.Repeat("z", 60000)} {
		holdFault(t, "bins "+s, api.ErrForm, 5)
		holdFault(t, "sum "+s+" in 1..2", api.ErrForm, 4)
		holdFault(t, "count where "+s+" = 1", api.ErrForm, 12)
		holdFault(t, "count where a = 1 and "+s+" = 1", api.ErrForm, 22)
	}
}

// TestNumbers holds each place of a number against runs of digits that are none, and too great ones.
func TestNumbers(t *testing.T) {
	huge := strings.Repeat("9", 60000)
	for _, x := range []struct{ ahead, behind string }{
		{"", " * count"}, {"count + ", " * count"}, {"3 * ", " * count"}, {"(", " * count)"},
		{"count[", "]"}, {"count[0][", "]"},
		{"sum a in ", "..2"}, {"sum a in 1..", ""}, {"clamp ", "..2 (count)"}, {"clamp 1..", " (count)"},
		{"count where a = ", ""}, {"count where a = 1 and b <> ", ""}, {"bins a where a < ", "[0]"},
	} {
		for _, s := range []string{"00", "01", "007", "0000000", "01048577", "0" + huge} {
			holdFault(t, x.ahead+s+x.behind, api.ErrForm, len(x.ahead))
		}
		for _, s := range []string{"1048577", "2097152", "10000000", "4294967296", "9223372036854775807", "9223372036854775808", "18446744073709551617", huge} {
			holdFault(t, x.ahead+s+x.behind, api.ErrRange, len(x.ahead))
			holdFault(t, x.ahead+s, api.ErrRange, len(x.ahead)) // what follows is not looked at
			holdFault(t, x.ahead+s+" )", api.ErrRange, len(x.ahead))
		}
		if strings.HasSuffix(x.ahead, "[") {
			holdFault(t, x.ahead+"-1"+x.behind, api.ErrForm, len(x.ahead))
			continue
		}
		for _, s := range []string{"0", "00", "01", "01048577", "a", "-", "-1", "count", "(", "?"} {
			holdFault(t, x.ahead+"-"+s+x.behind, api.ErrForm, len(x.ahead)+1)
			holdFault(t, x.ahead+"- "+s+x.behind, api.ErrForm, len(x.ahead)+2)
		}
		for _, s := range []string{"1048577", huge} {
			holdFault(t, x.ahead+"-"+s+x.behind, api.ErrRange, len(x.ahead)+1)
		}
	}
	// where no number stands, none is too great
	holdFaults(t, []faultCase{
		{"count 1048577", api.ErrForm, 6},
		{"bins 1048577", api.ErrForm, 5},
		{"count where 1048577 = 1", api.ErrForm, 12},
		{"1 1048577", api.ErrForm, 2},
	})
}

// TestWhatIsMetFirst: of several that are wrong the first piece counts.
func TestWhatIsMetFirst(t *testing.T) {
	holdFaults(t, []faultCase{
		{"1048577 * )", api.ErrRange, 0},
		{") * 1048577", api.ErrForm, 0},
		{"1048577 * 01", api.ErrRange, 0},
		{"01 * 1048577", api.ErrForm, 0},
		{"count where a = 1048577 and in = 1", api.ErrRange, 16},
		{"count where in = 1 and a = 1048577", api.ErrForm, 12},
		{"1048577 * " + strings.Repeat("(", 70), api.ErrRange, 0},
		{"(" + strings.Repeat("2 * ", 63) + "1048577 * count", api.ErrMuch, 253},
		{strings.Repeat("(", 70) + "1048577", api.ErrMuch, 64},
		{strings.Repeat("(", 63) + ")" + strings.Repeat("(", 9), api.ErrForm, 63},
	})
}

// TestTextsThatEndTooEarly: each beginning of a text that is no question fails at its end.
func TestTextsThatEndTooEarly(t *testing.T) {
	for _, gap := range []string{"", " ", "\n \n"} {
		holdFault(t, gap, api.ErrForm, len(gap))
		list := []string{"join", "(", "sum ", "a", "in ", "-", "1", "..", "-", "2", "where ", "b", "<=", "-", "3", "and ", "c", "=", "4", ",", "-", "4", "*", "count", "[", "1", "]", "+", "clamp", "0", "..", "1", "(", "total ", "(", "bins ", "c", ")", ")"}
		list = append(list, ")") // the only end that there is
		for n := range list {
			s := strings.Join(list[:n], " ") + gap
			holdFault(t, s, api.ErrForm, len(s))
		}
	}
}
