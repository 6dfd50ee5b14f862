package desk_test

import (
	"math"
	"slices"
	"strings"
	"testing"

	"hushhouse/api"
	"hushhouse/desk"
	"hushhouse/house"
	"hushhouse/speech"
)

// TestZ4Once: a question that is sent again is answered as before, whatever else the message says, and neither paid nor laid again.
func TestZ4Once(t *testing.T) {
	k, d := rich(t)
	want := replied("s", 1, f(2, 1), 3)
	hold(t, k, asking("s", 1), []int{0}, want)
	was, paidWas := slices.Clone(d.words), paid(t, d)
	again := asking("s", 1)
	for _, change := range []func(m *api.Message){
		func(*api.Message) {}, func(m *api.Message) { m.Text = "something else" }, func(m *api.Message) { m.Text = "" }, func(m *api.Message) { m.Text = "bins age" },
		func(m *api.Message) { m.Purse = "none" }, func(m *api.Message) { m.Purse = "\xff" }, func(m *api.Message) { m.R = api.Ratio{} }, func(m *api.Message) { m.R = f(-7, 14) },
		func(m *api.Message) { m.Low, m.High = 9, 8 }, func(m *api.Message) { m.Low, m.High = math.MinInt, math.MaxInt }, func(m *api.Message) { m.Text = strings.Repeat("x", 60000) },
	} {
		m := again
		change(&m)
		for _, bits := range [][]int{nil, {0}, {1, 0, 0}, {2}, make([]int, api.MaxBits+1)} {
			hold(t, k, m, bits, want)
			holdBytes(t, k, packed(t, m), bits, packed(t, want), api.OK)
		}
	}
	if !slices.Equal(d.words, was) || !slices.Equal(paid(t, d), paidWas) {
		t.Errorf("what was asked again was paid or laid again")
	}
	for _, wrong := range []struct {
		change func(m *api.Message)
		err    api.Errno
	}{
		{func(m *api.Message) { m.Kind = 2 }, api.ErrKind}, {func(m *api.Message) { m.Err = 1 }, api.ErrForm}, {func(m *api.Message) { m.Values = []int{0} }, api.ErrForm},
		{func(m *api.Message) { m.Lost = f(0, 1) }, api.ErrForm}, {func(m *api.Message) { m.Text = strings.Repeat("x", api.MaxFrame) }, api.ErrMuch},
	} {
		m := again
		wrong.change(&m)
		holdErr(t, k, m, nil, wrong.err)
	}
}

// TestZ4ErrorsAreAnsweredOnce, too: when the budget, the bits or the text would do now, it is as it was.
func TestZ4ErrorsAreAnsweredOnce(t *testing.T) {
	k, d := rich(t)
	holdPurse(t, k, "poor", f(3, 2), api.OK)
	for _, x := range []struct {
		session string
		first   func(m *api.Message)
		bits    []int
		err     api.Errno
		paid    bool
	}{
		{"text", func(m *api.Message) { m.Text = "count count" }, []int{0}, api.ErrForm, false},
		{"bits", func(*api.Message) {}, nil, api.ErrNone, true},
		{"purse", func(m *api.Message) { m.Purse = "none" }, []int{0}, api.ErrName, false},
		{"more", func(m *api.Message) { m.Purse = "poor" }, []int{0}, api.ErrBudget, false},
	} {
		m := asking(x.session, 1)
		x.first(&m)
		entries := len(paid(t, d))
		hold(t, k, m, x.bits, refused(x.session, 1, x.err))
		if got := len(paid(t, d)) > entries; got != x.paid {
			t.Errorf("%s is paid: %v", x.session, got)
		}
		was := slices.Clone(d.words)
		hold(t, k, asking(x.session, 1), []int{0}, refused(x.session, 1, x.err))
		hold(t, opened(t, d), asking(x.session, 1), []int{0}, refused(x.session, 1, x.err))
		if !slices.Equal(d.words, was) {
			t.Errorf("words were put")
		}
		hold(t, k, asking(x.session, 2), []int{0}, replied(x.session, 2, f(2, 1), 3))
	}
}

func TestZ4Numbers(t *testing.T) {
	k, _ := rich(t)
	for number := 1; number < 8; number++ {
		for _, other := range []int{0, -1, math.MinInt} {
			holdErr(t, k, asking("s", other), []int{0}, api.ErrForm)
		}
		for _, other := range []int{number + 1, number + 2, 1 << 32, math.MaxInt} {
			holdErr(t, k, asking("s", other), []int{0}, api.ErrRange)
		}
		hold(t, k, asking("s", number), []int{0}, replied("s", number, f(2, 1), 3))
		for other := 1; other < number; other++ {
			holdErr(t, k, asking("s", other), []int{0}, api.ErrNone)
		}
		hold(t, k, asking("s", number), nil, replied("s", number, f(2, 1), 3))
		holdErr(t, k, asking("t", 2), nil, api.ErrRange) // of this one there is no reply yet
	}
	hold(t, k, asking("t", 1), []int{0}, replied("t", 1, f(2, 1), 3))
}

// TestZ4Order: each error ahead of those that the document names later, down to the room on the disk; nothing is paid or laid for any of them.
func TestZ4Order(t *testing.T) {
	type tried struct {
		set func(m *api.Message)
		err api.Errno
	}
	nothing := tried{func(*api.Message) {}, api.OK}
	kinds := []tried{
		{func(m *api.Message) { m.Kind = 0 }, api.ErrKind}, {func(m *api.Message) { m.Kind = api.MessageReply }, api.ErrKind}, {func(m *api.Message) { m.Kind = 3 }, api.ErrKind},
		{func(m *api.Message) { m.Kind = -1 }, api.ErrKind}, {func(m *api.Message) { m.Kind = 257 }, api.ErrKind}, nothing,
	}
	forms := []tried{
		{func(m *api.Message) { m.Err = 4 }, api.ErrForm}, {func(m *api.Message) { m.Values = []int{1} }, api.ErrForm}, {func(m *api.Message) { m.Lost.Up = 1 }, api.ErrForm}, nothing,
	}
	lengths := []tried{{func(m *api.Message) { m.Purse = strings.Repeat("x", api.MaxFrame) }, api.ErrMuch}, nothing}
	names := []tried{
		{func(m *api.Message) { m.Session = "" }, api.ErrForm}, {func(m *api.Message) { m.Session = "S" }, api.ErrForm}, {func(m *api.Message) { m.Session = "s " }, api.ErrForm},
		{func(m *api.Message) { m.Session = strings.Repeat("s", 33) }, api.ErrForm}, {func(m *api.Message) { m.Session = "s\x00" }, api.ErrForm}, nothing,
	}
	numbers := []tried{
		{func(m *api.Message) { m.Number = 0 }, api.ErrForm}, {func(m *api.Message) { m.Number = -3 }, api.ErrForm}, {func(m *api.Message) { m.Number = 1 }, api.ErrNone},
		{func(m *api.Message) { m.Number = 4 }, api.ErrRange}, {func(m *api.Message) { m.Number = 3 }, api.ErrMuch}, nothing,
	}
	d := newDisk(2 * (92 + 5))
	k := opened(t, d)
	holdPurse(t, k, "p", f(40, 1), api.OK)
	for number := 1; number <= 2; number++ {
		hold(t, k, saying("s", number, "?"), nil, refused("s", number, api.ErrForm))
	}
	was := slices.Clone(d.words)
	for _, a := range kinds {
		for _, b := range forms {
			for _, c := range lengths {
				for _, e := range names {
					for _, g := range numbers {
						m := asking("s", 2)
						want := api.OK
						for _, x := range []tried{g, e, c, b, a} {
							x.set(&m)
							if x.err != api.OK {
								want = x.err
							}
						}
						if want == api.OK {
							hold(t, k, m, nil, refused("s", 2, api.ErrForm))
						} else {
							holdErr(t, k, m, []int{0}, want)
						}
					}
				}
			}
		}
	}
	if !slices.Equal(d.words, was) {
		t.Errorf("words were put")
	}
}

// TestZ4Room: as long as MaxReply words are behind the replies; what was replied is told also without room.
func TestZ4Room(t *testing.T) {
	for half := range 130 {
		d := newDisk(2 * half)
		k := opened(t, d)
		left, number := half, 0
		if r := refused(strings.Repeat("l", 32), 1, api.ErrForm); left >= 92 { // of more words than the others
			hold(t, k, saying(r.Session, 1, "?"), nil, r)
			left -= len(replyWords(t, r))
		}
		for left >= 92 {
			number++
			hold(t, k, saying("s", number, "?"), nil, refused("s", number, api.ErrForm))
			left -= 3
		}
		was := slices.Clone(d.words)
		holdErr(t, k, asking("s", number+1), nil, api.ErrMuch)
		holdErr(t, k, asking("t", 1), nil, api.ErrMuch)
		holdErr(t, k, asking("t", 2), nil, api.ErrRange)
		if number > 0 {
			hold(t, k, asking("s", number), nil, refused("s", number, api.ErrForm))
		}
		if number > 1 {
			holdErr(t, k, asking("s", number-1), nil, api.ErrNone)
		}
		if !slices.Equal(d.words, was) || d.bad {
			t.Errorf("words were put")
		}
		holdErr(t, opened(t, d), asking("s", number+1), nil, api.ErrMuch)
	}
}

// TestZ4Replies: what comes of the text, of the question and of the house is the reply, the first of them that fits.
func TestZ4Replies(t *testing.T) {
	wide := strings.Repeat("join(bins age, ", 15) + "bins age" + strings.Repeat(")", 15) // 64 places
	wider := "join(" + wide + ", count)"
	for _, x := range []struct {
		text   string
		change func(m *api.Message)
		bits   []int
		err    api.Errno
		paid   bool
	}{
		{text: "", err: api.ErrForm},
		{text: "count where", err: api.ErrForm},
		{text: "count where age = 1048577", err: api.ErrRange},
		{text: strings.Repeat("1 * ", 64) + "count", err: api.ErrMuch},
		{text: strings.Repeat("(", 64) + "?", err: api.ErrForm},
		{text: strings.Repeat("(", 64) + "count", err: api.ErrMuch},
		{text: "bins none", err: api.ErrName},
		{text: "count where none = 1", err: api.ErrName},
		{text: "bins age[4]", err: api.ErrRange},
		{text: "bins age + count", err: api.ErrFit},
		{text: "sum age in 3..2", err: api.ErrRange},
		{text: "1048576 * 1048576 * count", err: api.ErrMuch},
		{text: wider, err: api.ErrMuch},
		{text: wider, change: func(m *api.Message) { m.R = f(1, 2) }, err: api.ErrMuch},
		{text: wide, change: func(m *api.Message) { m.R = f(1, 2) }, err: api.ErrRange},
		{text: wide, change: func(m *api.Message) { m.Purse = "none"; m.R = f(3, 2) }, err: api.ErrName},
		{text: "count", change: func(m *api.Message) { m.R = f(2, 4) }, err: api.ErrForm},
		{text: "count", change: func(m *api.Message) { m.R = f(0, 0) }, err: api.ErrForm},
		{text: "count", change: func(m *api.Message) { m.R = f(2, 3) }, err: api.ErrRange},
		{text: "count", change: func(m *api.Message) { m.Low, m.High = 1, 0 }, err: api.ErrRange},
		{text: "count", change: func(m *api.Message) { m.High = 65 }, err: api.ErrRange},
		{text: "count", change: func(m *api.Message) { m.High = 64 }, err: api.ErrMuch},
		{text: "count", change: func(m *api.Message) { m.Low, m.High = math.MinInt, math.MaxInt }, err: api.ErrRange},
		{text: "count", bits: make([]int, api.MaxBits+1), err: api.ErrMany},
		{text: "count", bits: []int{0, 2}, err: api.ErrRange},
		{text: "count", bits: []int{0, 2}, change: func(m *api.Message) { m.Purse = "none" }, err: api.ErrRange},
		{text: "count", bits: []int{0}, change: func(m *api.Message) { m.Purse = "none" }, err: api.ErrName},
		{text: "count", bits: []int{0}, change: func(m *api.Message) { m.Purse = "" }, err: api.ErrForm},
		{text: "count", bits: []int{0}, change: func(m *api.Message) { m.Purse = "poor" }, err: api.ErrBudget},
		{text: "count", err: api.ErrNone, paid: true},
		{text: "count", bits: []int{1, 0}, err: api.ErrNone, paid: true},
	} {
		k, d := rich(t)
		holdPurse(t, k, "poor", f(3, 2), api.OK)
		d.puts = nil
		m := saying("s", 1, x.text)
		if x.change != nil {
			x.change(&m)
		}
		want := refused("s", 1, x.err)
		hold(t, k, m, x.bits, want)
		words := replyWords(t, want)
		if got := d.words[1500 : 1500+len(words)]; !slices.Equal(got, words) {
			t.Errorf("of %v the half has %x, not %x", m, got, words)
		}
		many := len(words) + 1
		if x.paid {
			many += 10
		}
		if len(d.puts) != many {
			t.Errorf("of %v %d words were put, not %d", m, len(d.puts), many)
		}
		hold(t, opened(t, d), asking("s", 1), nil, want)
		hold(t, k, asking("s", 2), []int{0}, replied("s", 2, f(2, 1), 3))
	}
}

// TestZ4Places: MaxPlaces places are answered, whatever values they have, and lie on the disk.
func TestZ4Places(t *testing.T) {
	x := api.Table{Columns: []api.Column{{Name: "all", Size: 64}, {Name: "more", Size: 64}}, Rows: [][]int{{7, 0}, {63, 63}, {63, 5}}}
	d := newDisk(2000)
	k, err := desk.Open(x, d)
	if err != api.OK {
		t.Fatalf("Open tells %d", err)
	}
	holdPurse(t, k, "p", f(9, 1), api.OK)
	holdPurse(t, k, "q", f(api.MaxPart, 1), api.OK)
	session := strings.Repeat("s", 32)
	m := saying(session, 1, "bins all")
	m.High = 1
	values := make([]int, 64)
	values[7], values[63] = 1, 1
	hold(t, k, m, make([]int, 64), replied(session, 1, f(2, 1), values...))
	m.Number, m.Purse, m.Low, m.High, m.R = 2, "q", -api.MaxNum, -api.MaxNum, f(api.MaxPart, api.MaxPart-1)
	for i := range values {
		values[i] = -api.MaxNum
	}
	most := replied(session, 2, m.R, values...)
	hold(t, k, m, nil, most)
	if words := len(replyWords(t, most)); words > api.MaxReply || words < 40 {
		t.Errorf("there are %d words", words)
	}
	m.Number, m.Purse, m.R, m.Text = 3, "p", f(2, 1), "join(bins all, count)"
	hold(t, k, m, nil, refused(session, 3, api.ErrMuch))
	m.Number, m.Text = 4, "join(bins all, bins more)"
	hold(t, k, m, nil, refused(session, 4, api.ErrMuch))
	m.Number, m.Text = 5, "join(bins all, bins more)[100]"
	hold(t, k, m, nil, replied(session, 5, f(4, 1), -api.MaxNum))
	k, _ = desk.Open(x, d)
	hold(t, k, asking(session, 5), nil, replied(session, 5, f(4, 1), -api.MaxNum))
	if d.bad {
		t.Errorf("a word was asked for that there isn't")
	}
}

// TestZ4AsTheHouseTells holds what is replied against a house that is asked the same.
func TestZ4AsTheHouseTells(t *testing.T) {
	l := lot(3)
	texts := []string{"count", "bins age", "bins sex where age = 2", "sum age in 0..2", "2 * count - count where sex = 1", "total(bins age)", "join(count, bins sex)", "clamp 0..1(bins age)[3]", "count where age = 0"}
	d, own := newDisk(9000), &disk{words: make([]int64, 4500), left: -1}
	k := opened(t, d)
	h, _ := house.Open(people(), own)
	for _, name := range []string{"p", "q", "r", "s"} {
		holdPurse(t, k, name, f(1<<20, 1), h.Purse(name, f(1<<20, 1)))
	}
	met := map[api.Errno]int{}
	for number := 1; number <= 400; number++ {
		m := saying("s", number, texts[l.below(len(texts))])
		m.Purse = []string{"p", "q", "r", "s", "t"}[l.below(5)]
		m.R, m.Low = []api.Ratio{f(3, 2), f(1, 1), f(2, 1)}[l.below(3)], l.below(3)-1
		m.High = m.Low + l.below(3)
		a, _ := speech.Read(m.Text)
		bits := l.bits()
		told, err := h.Ask(api.Question{Purse: m.Purse, Ask: a, R: m.R, Low: m.Low, High: m.High, Bits: bits})
		met[err]++
		hold(t, k, m, bits, api.Message{Kind: 2, Session: "s", Number: number, Err: err, Values: told.Values, Lost: told.Lost})
		if !slices.Equal(d.words[:4500], own.words) {
			t.Fatalf("the house's disks are not the same")
		}
	}
	if met[api.OK] < 20 || met[api.ErrNone] < 20 || met[api.ErrName] < 20 || met[api.ErrBudget]+met[api.ErrMuch] < 20 {
		t.Errorf("told is %v: too little is tried", met)
	}
}

func TestZ5Bytes(t *testing.T) {
	k, d := rich(t)
	holdBytes(t, k, packed(t, asking("s", 1)), []int{0}, "\x02\x01s\x02\x00\x01\x06\x04\x02", api.OK)
	holdBytes(t, k, packed(t, asking("s", 1)), nil, "\x02\x01s\x02\x00\x01\x06\x04\x02", api.OK)
	holdBytes(t, k, packed(t, saying("s", 2, "?")), nil, "\x02\x01s\x04\x04\x00\x00\x00", api.OK)
	hold(t, k, asking("s", 2), nil, refused("s", 2, api.ErrForm))
	was := slices.Clone(d.words)
	good := packed(t, asking("s", 3))
	for _, x := range []struct {
		b   string
		err api.Errno
	}{
		{"", api.ErrForm}, {"x", api.ErrForm}, {good + "\x00", api.ErrForm}, {good[1:], api.ErrForm}, {good[:len(good)-1], api.ErrForm}, {"\x03" + good[1:], api.ErrForm},
		{strings.Repeat("\x00", api.MaxFrame), api.ErrForm}, {strings.Repeat("\x00", api.MaxFrame+1), api.ErrMuch}, {good + strings.Repeat("\x00", api.MaxFrame), api.ErrMuch},
		{packed(t, refused("s", 2, api.ErrForm)), api.ErrKind}, {packed(t, refused("S", 0, 0)), api.ErrKind}, {packed(t, asking("S", 3)), api.ErrForm}, {packed(t, asking("s", 0)), api.ErrForm},
		{packed(t, asking("s", 1)), api.ErrNone}, {packed(t, asking("s", 4)), api.ErrRange}, {packed(t, asking("t", 2)), api.ErrRange},
	} {
		holdBytes(t, k, x.b, []int{0}, "", x.err)
	}
	if !slices.Equal(d.words, was) {
		t.Errorf("words were put")
	}
	holdBytes(t, k, good, []int{0}, "\x02\x01s\x06\x00\x01\x06\x04\x02", api.OK)
	m := ages("s", 4)
	holdBytes(t, k, packed(t, m), make([]int, 4), "\x02\x01s\x08\x00\x04\x02\x00\x02\x02\x04\x02", api.OK)
}

// TestZ5WhatLiesThere: replies that the desk itself would not make are told as they are, in bytes too.
func TestZ5WhatLiesThere(t *testing.T) {
	for _, r := range []api.Message{
		{Kind: 2, Session: "s", Number: 1, Err: api.ErrPower, Values: []int{math.MinInt, math.MaxInt}, Lost: f(-1, 0)}, refused("s", 1, api.ErrPower), refused("s", 1, api.ErrState), refused("s", 1, -5), long(t, "s", 720),
	} {
		d := onHalf(slices.Concat(replyWords(t, r), make([]int64, 100)), false)
		k := opened(t, d)
		hold(t, k, asking("s", 1), nil, r)
		holdBytes(t, k, packed(t, asking("s", 1)), nil, packed(t, r), api.OK)
		hold(t, k, saying("s", 2, "?"), nil, refused("s", 2, api.ErrForm)) // it is not broken
		holdErr(t, k, asking("s", 1), nil, api.ErrNone)
	}
}
