package desk_test

import (
	"slices"
	"testing"

	"hushhouse/api"
	"hushhouse/desk"
)

// holdBroken: a broken desk tells ErrState and nothing else, whatever it is asked, and puts nothing, though the power is back.
func holdBroken(t *testing.T, k *desk.Desk, d *disk) {
	t.Helper()
	left, puts, tried := d.left, len(d.puts), d.refused
	for _, d.left = range []int{-1, 0, 5} {
		holdPurse(t, k, "another", f(2, 1), api.ErrState)
		holdPurse(t, k, "?", f(2, 4), api.ErrState)
		for number := -1; number < 5; number++ {
			holdErr(t, k, asking("s", number), []int{0}, api.ErrState)
			holdErr(t, k, asking("S", number), []int{0}, api.ErrState)
			holdBytes(t, k, packed(t, asking("s", number)), []int{0}, "", api.ErrState)
		}
		holdErr(t, k, api.Message{}, nil, api.ErrState)
		holdErr(t, k, refused("s", 1, 2), nil, api.ErrState)
		holdBytes(t, k, "", nil, "", api.ErrState)
		holdBytes(t, k, string(make([]byte, api.MaxFrame+1)), nil, "", api.ErrState)
	}
	if len(d.puts) != puts || d.refused != tried || d.bad {
		t.Errorf("a broken desk has put words")
	}
	d.left = left
}

// layings are the words that are put when a record is laid, in order.
func layings(at int, record []int64) []put {
	out := []put{{at, 0}}
	for i, w := range record[1:] {
		out = append(out, put{at + 1 + i, w})
	}
	return append(out, put{at, 1})
}

// doing is something that a desk is asked, and the words that are put then.
type doing struct {
	do   func(k *desk.Desk) api.Errno
	puts []put
	paid bool
	told api.Message // to the session t
}

// half is where the desk's half begins.
const half = 150

// rubbish is a disk with a purse and two replies, behind which everything means nothing, but for heads that say that it counts.
func rubbish(t *testing.T) *disk {
	d := newDisk(2 * half)
	k := opened(t, d)
	holdPurse(t, k, "p", f(40, 1), api.OK)
	hold(t, k, saying("s", 1, "?"), nil, refused("s", 1, api.ErrForm))
	hold(t, k, saying("s", 2, "?"), nil, refused("s", 2, api.ErrForm))
	for _, from := range []int{9, half + 6} {
		for i := from; i < from+half-9; i++ {
			d.words[i] = []int64{1, -7}[i%2]
		}
	}
	d.puts = nil
	return d
}

func doings(t *testing.T) []doing {
	tells := func(m api.Message, bits ...int) func(k *desk.Desk) api.Errno {
		return func(k *desk.Desk) api.Errno { _, err := k.Tell(m, bits); return err }
	}
	bytes := func(m api.Message, bits ...int) func(k *desk.Desk) api.Errno {
		return func(k *desk.Desk) api.Errno { _, err := k.Bytes(packed(t, m), bits); return err }
	}
	const name = 0x70 << 56 // p
	price := []int64{1, api.BookSpend, 0, 2, 1, name, 0, 0, 0}
	asked := func(r api.Message) []put { return layings(half+6, replyWords(t, r)) }
	one, four, none, bad := replied("t", 1, f(2, 1), 3), replied("t", 1, f(2, 1), 1, 0, 1, 1), refused("t", 1, api.ErrNone), refused("t", 1, api.ErrForm)
	return []doing{
		{func(k *desk.Desk) api.Errno { return k.Purse("pp", f(7, 3)) }, layings(9, []int64{1, api.BookOpen, 0, 7, 3, 0x7070 << 48, 0, 0, 0}), true, api.Message{}},
		{tells(asking("t", 1), 0), slices.Concat(layings(9, price), asked(one)), true, one},
		{bytes(ages("t", 1), 0, 0, 0, 0), slices.Concat(layings(9, price), asked(four)), true, four},
		{tells(asking("t", 1)), slices.Concat(layings(9, price), asked(none)), true, none},
		{tells(saying("t", 1, "?")), asked(bad), false, bad},
		{bytes(saying("t", 1, "?")), asked(bad), false, bad},
	}
}

func TestZ4WordsInOrder(t *testing.T) {
	for i, x := range doings(t) {
		d := rubbish(t)
		if err := x.do(opened(t, d)); err != api.OK {
			t.Fatalf("%d tells %d", i, err)
		}
		if !slices.Equal(d.puts, x.puts) {
			t.Errorf("%d: these words were put: %v, not %v", i, d.puts, x.puts)
		}
	}
}

// TestZ4PowerGoes: at every word of everything that is done: no other word is put, the desk is broken, and the next desk knows the reply only if all words were put.
func TestZ4PowerGoes(t *testing.T) {
	for i, x := range doings(t) {
		for left := range len(x.puts) {
			d := rubbish(t)
			k := opened(t, d)
			d.left = left
			if err := x.do(k); err != api.ErrPower {
				t.Errorf("%d with power for %d words tells %d", i, left, err)
			}
			if !slices.Equal(d.puts, x.puts[:left]) || d.refused != 1 || d.bad {
				t.Errorf("%d with power for %d words put %v, and tried %d more", i, left, d.puts, d.refused)
			}
			holdBroken(t, k, d)
			d.left, d.refused = -1, 0
			entries := 1
			if x.paid && left >= 10 {
				entries = 2
			}
			if got := paid(t, d); len(got) != entries {
				t.Errorf("%d with power for %d words paid %v", i, left, got)
			}
			next := opened(t, d)
			hold(t, next, asking("s", 2), nil, refused("s", 2, api.ErrForm))
			holdErr(t, next, asking("t", 2), nil, api.ErrRange) // there is no reply to t
			d.puts = nil
			if err := x.do(next); err != api.OK || len(d.puts) != len(x.puts) {
				t.Errorf("%d of the next desk tells %d, and puts %v", i, err, d.puts)
			}
			if x.paid && len(paid(t, d)) != entries+1 {
				t.Errorf("%d of the next desk paid %v", i, paid(t, d))
			}
			holdKnown(t, next, x.told)
			holdKnown(t, opened(t, d), x.told)
		}
	}
}

func holdKnown(t *testing.T, k *desk.Desk, r api.Message) {
	t.Helper()
	if r.Kind == 0 {
		holdErr(t, k, asking("t", 2), nil, api.ErrRange)
		return
	}
	hold(t, k, saying("t", 1, "anything"), nil, r)
}

// TestZ4RefusedPutsNothing: what is told without a reply, and what was replied, comes nowhere near the disk, also where there is no power, and breaks nothing.
func TestZ4RefusedPutsNothing(t *testing.T) {
	d := rubbish(t)
	k := opened(t, d)
	d.left = 0
	holdPurse(t, k, "p", f(2, 1), api.ErrName)
	holdPurse(t, k, "P", f(2, 1), api.ErrForm)
	hold(t, k, asking("s", 2), []int{0}, refused("s", 2, api.ErrForm))
	holdErr(t, k, asking("s", 1), []int{0}, api.ErrNone)
	holdErr(t, k, asking("s", 4), []int{0}, api.ErrRange)
	holdErr(t, k, asking("?", 1), []int{0}, api.ErrForm)
	holdErr(t, k, refused("s", 3, 1), []int{0}, api.ErrKind)
	holdBytes(t, k, "?", []int{0}, "", api.ErrForm)
	if len(d.puts) > 0 || d.refused > 0 {
		t.Errorf("%v were put", d.puts)
	}
	holdErr(t, k, saying("s", 3, "?"), []int{0}, api.ErrPower)
	holdBroken(t, k, d)
}

// TestZ4RecordsBehind: what lies behind the replies of an open desk is not looked at; a record that is laid by halves over one that counted doesn't count, nor does what lies behind it.
func TestZ4RecordsBehind(t *testing.T) {
	l := []api.Message{refused("a", 1, 1), refused("b", 1, 2), refused("c", 1, 3)} // of 3 words each
	for left := range 5 {
		d := onHalf(slices.Concat(replyWords(t, l...), make([]int64, 110)), false)
		at := len(d.words) / 2
		d.words[at+3] = 2 // the second one doesn't count any more
		k := opened(t, d)
		holdErr(t, k, asking("b", 2), nil, api.ErrRange)
		d.left = left
		known := []string{"a"}
		if left == 4 {
			hold(t, k, saying("d", 1, "?"), nil, refused("d", 1, api.ErrForm))
			holdErr(t, k, asking("c", 2), nil, api.ErrRange) // the open desk doesn't know of it
			known = []string{"a", "c", "d"}                  // the one behind it lies there still, and counts again
		} else {
			holdErr(t, k, saying("d", 1, "?"), nil, api.ErrPower)
		}
		d.left, d.refused = -1, 0
		k = opened(t, d)
		for _, session := range []string{"a", "b", "c", "d"} {
			want := api.ErrRange
			if slices.Contains(known, session) {
				want = api.OK
			}
			if _, err := k.Tell(saying(session, 2, "?"), nil); err != want {
				t.Errorf("with power for %d words the next reply of %q is %d, not %d", left, session, err, want)
			}
		}
	}
}
