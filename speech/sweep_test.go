package speech_test

import (
	"math/rand"
	"regexp"
	"strconv"
	"strings"
	"testing"

	"hushhouse/api"
	"hushhouse/speech"
)

func anyName(r *rand.Rand) string {
	return []string{"a", "age", "_", "counts", "ins", strings.Repeat("x", 32)}[r.Intn(6)]
}

func anyNumber(r *rand.Rand) int {
	return []int{0, 1, 2, 9, 10, 1023, api.MaxValue - 1, api.MaxValue}[r.Intn(8)]
}

func anySigned(r *rand.Rand) int { return anyNumber(r) * (1 - 2*r.Intn(2)) }

func anyTests(r *rand.Rand) []api.Test {
	var l []api.Test
	for range r.Intn(3) {
		l = append(l, test(anyName(r), 1+r.Intn(6), anySigned(r)))
	}
	return l
}

// anyAsk is a question that reaches down so many levels at most.
func anyAsk(r *rand.Rand, high int) api.Ask {
	kind := 1 + r.Intn(10)
	if high <= 1 {
		kind = 1 + r.Intn(3)
	}
	kid := func() api.Ask { return anyAsk(r, high-1) }
	switch kind {
	case api.AskCount:
		return count(anyTests(r)...)
	case api.AskSum:
		return sum(anyName(r), anySigned(r), anySigned(r), anyTests(r)...)
	case api.AskBins:
		return bins(anyName(r), anyTests(r)...)
	case api.AskTimes:
		return times(anySigned(r), kid())
	case api.AskTotal:
		return total(kid())
	case api.AskPick:
		return pick(anyNumber(r), kid())
	case api.AskClamp:
		return clamp(anySigned(r), anySigned(r), kid())
	}
	return two(kind, kid(), kid())
}

// said are pieces that say a question; without are the kinds that may stand there without brackets (all, if none is named), and brackets stand now and then where they need not.
func said(r *rand.Rand, a api.Ask, without ...int) []string {
	bare := len(without) == 0
	for _, kind := range without {
		bare = bare || kind == a.Kind
	}
	if !bare || r.Intn(9) == 0 {
		return around("(", said(r, a), ")")
	}
	things := []int{api.AskCount, api.AskSum, api.AskBins, api.AskJoin, api.AskTotal, api.AskClamp}
	picks := append([]int{api.AskPick}, things...)
	products := append([]int{api.AskTimes}, picks...)
	sums := append([]int{api.AskAdd, api.AskSub}, products...)
	switch a.Kind {
	case api.AskCount:
		return append([]string{"count"}, saidTests(a.Where)...)
	case api.AskSum:
		return append(append([]string{"sum", a.Column, "in"}, saidSpan(a)...), saidTests(a.Where)...)
	case api.AskBins:
		return append([]string{"bins", a.Column}, saidTests(a.Where)...)
	case api.AskTimes:
		return append(append(saidNumber(a.Low), "*"), said(r, a.Kids[0], products...)...)
	case api.AskTotal:
		return append([]string{"total"}, around("(", said(r, a.Kids[0]), ")")...)
	case api.AskPick:
		return append(said(r, a.Kids[0], picks...), "[", strconv.Itoa(a.Low), "]")
	case api.AskClamp:
		return append(append([]string{"clamp"}, saidSpan(a)...), around("(", said(r, a.Kids[0]), ")")...)
	case api.AskJoin:
		return append(around("join", around("(", said(r, a.Kids[0]), ","), said(r, a.Kids[1])...), ")")
	}
	sign := map[int]string{api.AskAdd: "+", api.AskSub: "-"}[a.Kind]
	return append(append(said(r, a.Kids[0], sums...), sign), said(r, a.Kids[1], products...)...)
}

func around(ahead string, l []string, behind ...string) []string {
	return append(append([]string{ahead}, l...), behind...)
}

func saidNumber(n int) []string {
	if n < 0 {
		return []string{"-", strconv.Itoa(-n)}
	}
	return []string{strconv.Itoa(n)}
}

func saidSpan(a api.Ask) []string {
	return append(append(saidNumber(a.Low), ".."), saidNumber(a.High)...)
}

func saidTests(l []api.Test) []string {
	var out []string
	for i, x := range l {
		out = append(out, []string{"where", "and"}[min(i, 1)], x.Column, []string{"", "=", "<", "<=", ">", ">=", "<>"}[x.Do])
		out = append(out, saidNumber(x.Value)...)
	}
	return out
}

// mixes is what two pieces are that would be others without a space.
var mixes = regexp.MustCompile(`^(?:[a-z_]+ [a-z_]+|[0-9]+ [0-9]+|< [=>].*|> =.*)$`)

// text lays pieces behind each other, with gaps between them.
func text(r *rand.Rand, l []string) string {
	gaps := []string{"", " ", "\n", "  "}
	var out strings.Builder
	out.WriteString(gaps[r.Intn(4)])
	for i, piece := range l {
		if i > 0 && mixes.MatchString(l[i-1]+" "+piece) {
			out.WriteString(gaps[1+r.Intn(3)])
		} else if i > 0 {
			out.WriteString(gaps[r.Intn(4)])
		}
		out.WriteString(piece)
	}
	out.WriteString(gaps[r.Intn(4)])
	return out.String()
}

func TestReadSweep(t *testing.T) {
	r := rand.New(rand.NewSource(151))
	for range 20000 {
		a := anyAsk(r, 1+r.Intn(7))
		holdRead(t, text(r, said(r, a)), a)
		if t.Failed() {
			return
		}
	}
}

// tight is a text by the rules of Q4 alone: all that is between two pieces is one space, but where there is none.
func tight(s string) string {
	var out, last string
	rest := strings.TrimLeft(s, " ")
	number := regexp.MustCompile(`^[0-9]`)
	span := false
	for rest != "" {
		piece := pieceForm.FindString(rest)
		rest = strings.TrimLeft(rest[len(piece):], " ")
		minus := strings.HasSuffix(last, "signed-") && number.MatchString(piece)
		none := out == "" || last == "(" || last == "[" || strings.Contains(")][,", piece) || piece == ".." || span || minus
		if !none {
			out += " "
		}
		out += piece
		span = piece == ".." || span && piece == "-"
		if piece == "-" && !ends.MatchString(last) || piece == "-" && (last == "in" || last == "clamp") {
			piece = "signed-"
		}
		last = piece
	}
	return out
}

// needless tells of a text whether there are brackets in it without which it says the same.
func needless(s string, a api.Ask) bool {
	var open []int
	for i := range s {
		switch s[i] {
		case '(':
			open = append(open, i)
		case ')':
			from := open[len(open)-1]
			open = open[:len(open)-1]
			less := s[:from] + s[from+1:i] + s[i+1:]
			if got, fault := speech.Read(less); fault == (api.Fault{}) && equal(got, a) {
				return true
			}
		}
	}
	return false
}

// TestPrintSweep: what is written says the question, has no brackets without which it would, and spaces where they must stand.
func TestPrintSweep(t *testing.T) {
	r := rand.New(rand.NewSource(152))
	for range 10000 {
		a := anyAsk(r, 1+r.Intn(7))
		s, err := speech.Print(a)
		if err != api.OK || tight(s) != s || needless(s, a) {
			t.Fatalf("Print of %s is %q, %d", short(a), s, err)
		}
		holdRead(t, s, a)
		if back, _ := speech.Read(text(r, said(r, a))); !t.Failed() {
			holdPrint(t, back, s)
		}
		if t.Failed() {
			return
		}
	}
}

// pieceList are pieces, and bytes that are none, of which texts are made by lot.
func pieceList() []string {
	return []string{"count", "sum", "bins", "total", "join", "clamp", "where", "and", "in", "a", "_b", strings.Repeat("x", 32), strings.Repeat("x", 33),
		"0", "1", "00", "01", "1048576", "1048577", "99999999999999999999", "+", "-", "*", "(", ")", "[", "]", ",", "=", "<", "<=", ">", ">=", "<>", "..", "?", ".", "A"}
}

// holdSlow: of a text that is told which the rules tell.
func holdSlow(t *testing.T, s string) {
	t.Helper()
	want := slowFault(s)
	if got, fault := speech.Read(s); fault != want || want != (api.Fault{}) && !empty(got) {
		t.Errorf("Read of %.900q is %s, %v, not %v", s, short(got), fault, want)
	}
}

func TestAllShortTexts(t *testing.T) {
	holdSlow(t, "")
	list := pieceList()
	for _, a := range list {
		holdSlow(t, a)
		for _, b := range list {
			holdSlow(t, a+" "+b)
			holdSlow(t, a+b)
		}
	}
	for _, start := range []string{"count where a", "count where a = ", "2 *", "count [", "sum a in", "sum a in 1", "join (count", "clamp -1 ..", "bins a where a = 1", "count +"} {
		for _, a := range list {
			for _, b := range list {
				holdSlow(t, start+" "+a+" "+b)
			}
		}
	}
}

// changed is a list of pieces with some taken out, put in, exchanged, or with an end or a beginning less.
func changed(r *rand.Rand, l []string) []string {
	other := pieceList()
	for range 1 + r.Intn(2) {
		i, piece := r.Intn(len(l)+1), other[r.Intn(len(other))]
		var out []string
		out = append(out, l[:i]...)
		switch rest := l[i:]; r.Intn(6) {
		case 0:
			out = append(append(out, piece), rest...)
		case 1:
			if len(rest) > 0 {
				out = append(append(out, piece), rest[1:]...)
			}
		case 2:
			if len(rest) > 0 {
				out = append(out, rest[1:]...)
			}
		case 3:
			if len(rest) > 1 {
				out = append(append(out, rest[1], rest[0]), rest[2:]...)
			}
		case 4:
			out = rest
		}
		l = out
	}
	return l
}

func TestFaultSweep(t *testing.T) {
	r := rand.New(rand.NewSource(153))
	for range 12000 {
		a := anyAsk(r, 1+r.Intn(5))
		holdSlow(t, text(r, changed(r, said(r, a))))
		if t.Failed() {
			return
		}
	}
}

// TestDeepSweep: texts with about as many levels, signs, picks and tests as there may be, and with changes in them.
func TestDeepSweep(t *testing.T) {
	r := rand.New(rand.NewSource(154))
	starts := [][]string{{"2", "*"}, {"-", "3", "*"}, {"("}, {"total", "("}, {"join", "(", "count", ","}, {"count", "+"}, {"count", "-", "("}, {"clamp", "1", "..", "2", "("}}
	behind := [][]string{{"[", "1", "]"}, {"+", "count"}, {"and", "a", "=", "1"}, {"-", "2", "*", "count"}}
	for range 1500 {
		var l []string
		// few kinds at a time, lest no limit be reached
		x, y := starts[r.Intn(len(starts))], starts[r.Intn(len(starts))]
		for range 55 + r.Intn(14) {
			l = append(l, x...)
			if r.Intn(8) == 0 {
				x, y = y, x
			}
		}
		l = append(l, "count", "where", "a", "=", "1")
		more := behind[r.Intn(len(behind))]
		for range []int{0, 61 + r.Intn(6)}[r.Intn(2)] {
			l = append(l, more...)
		}
		all := strings.Join(l, "")
		for range max(0, strings.Count(all, "(")+[]int{0, 0, 0, 1, -1}[r.Intn(5)]) {
			if r.Intn(40) == 0 {
				l = append(l, more...)
			}
			l = append(l, ")")
		}
		if r.Intn(3) == 0 {
			l = changed(r, l)
		}
		holdSlow(t, text(r, l))
		if t.Failed() {
			return
		}
	}
}

// TestAnyBytes: whatever a text is, something is told of it, and it is what the rules tell.
func TestAnyBytes(t *testing.T) {
	r := rand.New(rand.NewSource(155))
	for range 20000 {
		b := make([]byte, r.Intn(12))
		for i := range b {
			b[i] = []byte("0123 \n+-*()[],=<>.countbisa_?\x00\xff")[r.Intn(31)]
		}
		holdSlow(t, string(b))
	}
}

// high is how many levels the text of a question has that begins on a level; too many signs or picks in a row are as good as too many levels.
func high(a api.Ask, level int) int {
	isSum := func(a api.Ask) bool { return a.Kind == api.AskAdd || a.Kind == api.AskSub }
	signs, picks := 0, 0
	for x := a; isSum(x); x = x.Kids[0] {
		signs++
	}
	for x := a; x.Kind == api.AskPick; x = x.Kids[0] {
		picks++
	}
	if signs > api.MaxAsk || picks > api.MaxAsk {
		return api.MaxAsk + 1
	}
	out := level
	for i, kid := range a.Kids {
		at := level
		switch {
		case a.Kind == api.AskTotal || a.Kind == api.AskClamp || a.Kind == api.AskJoin:
			at++
		case a.Kind == api.AskTimes && isSum(kid):
			at += 2
		case a.Kind == api.AskTimes || isSum(a) && i == 1 && isSum(kid):
			at++
		case a.Kind == api.AskPick && (isSum(kid) || kid.Kind == api.AskTimes):
			at++
		}
		out = max(out, high(kid, at))
	}
	return out
}

// TestPrintDeepSweep: a question is too much just if its text has too many levels, signs or picks.
func TestPrintDeepSweep(t *testing.T) {
	r := rand.New(rand.NewSource(156))
	list := deeper()
	much := 0
	for range 4000 {
		a := anyAsk(r, 2)
		x, y := list[r.Intn(len(list))], list[r.Intn(len(list))]
		for range 25 + r.Intn(45) {
			if r.Intn(4) == 0 {
				x, y = y, x
			}
			a = x.around(a)
		}
		want := api.OK
		if high(a, 1) > api.MaxAsk {
			want = api.ErrMuch
			much++
		}
		s, err := speech.Print(a)
		if err != want || (s == "") != (want != api.OK) {
			t.Fatalf("Print of a question of %d levels is %.200q, %d, not %d", high(a, 1), s, err, want)
		}
		if want == api.OK {
			holdRead(t, s, a)
		}
	}
	if much < 500 || much > 3500 {
		t.Errorf("%d of 4000 questions are too much: that says little", much)
	}
}
