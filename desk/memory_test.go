package desk_test

import (
	"reflect"
	"runtime"
	"slices"
	"strings"
	"testing"
	"unsafe"

	"hushhouse/api"
	"hushhouse/desk"
)

// roomy lays a list with spare room behind it, so that what is written there is seen.
func roomy[T any](l []T, behind T) []T {
	return append(append(make([]T, 0, len(l)+2), l...), behind, behind)[:len(l)]
}

// wholeList is all of a list with its spare room.
func wholeList[T any](l []T) []T { return slices.Clone(l[:cap(l)]) }

func roomyTable() api.Table {
	x := people()
	for i, row := range x.Rows {
		x.Rows[i] = roomy(row, 91)
	}
	return api.Table{Columns: roomy(x.Columns, api.Column{Name: "spare", Size: 92}), Rows: roomy(x.Rows, []int{93})}
}

func wholeTable(x api.Table) api.Table {
	out := api.Table{Columns: wholeList(x.Columns)}
	for _, row := range x.Rows[:cap(x.Rows)] {
		out.Rows = append(out.Rows, append([]int{len(row)}, wholeList(row)...))
	}
	return out
}

func TestE2OnlyRead(t *testing.T) {
	x := roomyTable()
	wasTable := wholeTable(x)
	d := newDisk(800)
	k, err := desk.Open(x, d)
	if err != api.OK {
		t.Fatalf("Open tells %d", err)
	}
	holdPurse(t, k, "p", f(1<<20, 1), api.OK)
	number := 0
	for _, text := range []string{"count", "bins age", "bins none", "", "sum age in 0..3"} {
		for _, bits := range [][]int{nil, {0, 1, 0}, {2}, make([]int, 99)} {
			for _, values := range [][]int{nil, {4}} {
				bits, values := roomy(bits, 7), roomy(values, 8)
				wasBits, wasValues := wholeList(bits), wholeList(values)
				m := saying("s", number+1, text)
				m.Values = values
				if _, err := k.Tell(m, bits); err == api.OK {
					number++
				}
				k.Tell(m, bits)
				k.Bytes(packed(t, saying("s", number+1, text)), bits)
				number++
				if !slices.Equal(wholeList(bits), wasBits) || !slices.Equal(wholeList(values), wasValues) || !reflect.DeepEqual(wholeTable(x), wasTable) {
					t.Errorf("what was handed in became %v, %v, %v", wholeList(bits), wholeList(values), wholeTable(x))
				}
			}
		}
	}
}

// TestE2NothingIsKept: the table may be changed as soon as the desk is open.
func TestE2NothingIsKept(t *testing.T) {
	x := roomyTable()
	name := []byte("age")
	x.Columns[0].Name = unsafe.String(&name[0], len(name))
	k, err := desk.Open(x, newDisk(800))
	if err != api.OK {
		t.Fatalf("Open tells %d", err)
	}
	holdPurse(t, k, "p", f(1<<20, 1), api.OK)
	copy(name, "old")
	for i, row := range x.Rows {
		clear(row)
		x.Rows[i] = []int{1}
	}
	for i := range x.Columns {
		x.Columns[i] = api.Column{Name: "spoilt", Size: 1}
	}
	bits := make([]int, 4)
	hold(t, k, ages("s", 1), bits, replied("s", 1, f(2, 1), 1, 0, 1, 1))
	bits[0] = 1
	hold(t, k, ages("s", 1), nil, replied("s", 1, f(2, 1), 1, 0, 1, 1))
	hold(t, k, saying("s", 2, "bins old"), nil, refused("s", 2, api.ErrName))
	hold(t, k, saying("s", 3, "bins spoilt"), nil, refused("s", 3, api.ErrName))
}

// TestE2TextsAreNotKept: the memory of a session's name may be used for another text when the call has answered, and what was told has its own.
func TestE2TextsAreNotKept(t *testing.T) {
	k, _ := rich(t)
	for number := 1; number <= 3; number++ {
		session, purse := []byte("session"), []byte("p")
		m := asking(unsafe.String(&session[0], len(session)), number)
		m.Purse = unsafe.String(&purse[0], len(purse))
		got, err := k.Tell(m, []int{0})
		copy(session, "another")
		purse[0] = 'q'
		if want := replied("session", number, f(2, 1), 3); err != api.OK || !equal(got, want) {
			t.Errorf("%v, %d was told, not %v", got, err, want)
		}
		hold(t, k, asking("session", number), nil, replied("session", number, f(2, 1), 3))
		holdErr(t, k, asking("another", 2), nil, api.ErrRange)
	}
	name := []byte("purse")
	holdPurse(t, k, unsafe.String(&name[0], len(name)), f(2, 1), api.OK)
	copy(name, "spoil")
	holdPurse(t, k, "purse", f(2, 1), api.ErrName)
}

// TestE2AnswersAreNew: whoever writes over what was answered, its spare room too, changes neither the desk nor another answer.
func TestE2AnswersAreNew(t *testing.T) {
	k, d := rich(t)
	want := replied("s", 1, f(2, 1), 1, 0, 1, 1)
	var kept []api.Message
	for i := range 6 {
		if i == 3 {
			k = opened(t, d)
		}
		got, err := k.Tell(ages("s", 1), make([]int, 4))
		other, oerr := k.Tell(ages("s", 1), make([]int, 4))
		if err != api.OK || oerr != api.OK {
			t.Fatalf("Tell tells %d, %d", err, oerr)
		}
		kept = append(kept, got)
		all := other.Values[:cap(other.Values)]
		for i := range all {
			all[i] = -12345
		}
		b, _ := k.Bytes(packed(t, ages("s", 1)), nil)
		bytes := unsafe.Slice(unsafe.StringData(b), len(b))
		clear(bytes)
		hold(t, k, ages("s", 1), nil, want)
		holdBytes(t, k, packed(t, ages("s", 1)), nil, packed(t, want), api.OK)
	}
	for _, m := range kept {
		if !equal(m, want) {
			t.Errorf("what was answered became %v", m)
		}
	}
}

// TestE1TwoDesks: of two disks one desk knows nothing of the other one, nor does a broken one break another.
func TestE1TwoDesks(t *testing.T) {
	one, _ := rich(t)
	two, d := rich(t)
	hold(t, one, asking("s", 1), []int{0}, replied("s", 1, f(2, 1), 3))
	holdErr(t, two, asking("s", 2), []int{0}, api.ErrRange)
	hold(t, two, asking("s", 1), nil, refused("s", 1, api.ErrNone))
	d.left = 0
	holdErr(t, two, asking("s", 2), nil, api.ErrPower)
	holdBroken(t, two, d)
	hold(t, one, asking("s", 1), nil, replied("s", 1, f(2, 1), 3))
	hold(t, one, asking("s", 2), []int{0}, replied("s", 2, f(2, 1), 3))
}

// TestE1RepliesAreRemembered: an open desk knows its replies, whatever becomes of the disk.
func TestE1RepliesAreRemembered(t *testing.T) {
	k, d := rich(t)
	hold(t, k, asking("s", 1), []int{0}, replied("s", 1, f(2, 1), 3))
	clear(d.words)
	hold(t, k, asking("s", 1), nil, replied("s", 1, f(2, 1), 3))
	hold(t, k, saying("t", 1, "?"), nil, refused("t", 1, api.ErrForm))
	if want := replyWords(t, refused("t", 1, api.ErrForm)); !slices.Equal(d.words[1504:1504+len(want)], want) || d.words[1500] != 0 {
		t.Errorf("the half has %x", d.words[1500:1520])
	}
	holdErr(t, opened(t, d), asking("s", 2), nil, api.ErrRange)
}

func TestE3NilAndEmptyAreTheSame(t *testing.T) {
	for _, list := range [][][]int{nil, {}} {
		for _, none := range [][]int{nil, {}, roomy([]int{}, 7)} {
			k, err := desk.Open(api.Table{Columns: people().Columns, Rows: list}, newDisk(800))
			if err != api.OK {
				t.Fatalf("Open tells %d", err)
			}
			holdPurse(t, k, "p", f(9, 1), api.OK)
			m := asking("s", 1)
			m.Values, m.High = none, 0
			hold(t, k, m, none, replied("s", 1, f(2, 1), 0))
			m.Number, m.High = 2, 1
			hold(t, k, m, none, refused("s", 2, api.ErrNone))
		}
	}
}

// inUse is how many bytes are in use.
func inUse() int {
	runtime.GC()
	var m runtime.MemStats
	runtime.ReadMemStats(&m)
	return int(m.HeapAlloc)
}

// TestDesksKeepLittle: of a session the last reply alone; of long messages nothing.
func TestDesksKeepLittle(t *testing.T) {
	d := newDisk(200000)
	k := opened(t, d)
	d.puts = make([]put, 0, 200000)
	hold(t, k, saying("s", 1, "?"), nil, refused("s", 1, api.ErrForm))
	before := inUse()
	for number := 2; number <= 20000; number++ {
		m := saying("s", number, "?")
		if number%200 == 0 {
			m.Text = strings.Repeat("x", 60000)
		}
		if _, err := k.Tell(m, nil); err != api.OK {
			t.Fatalf("%d tells %d", number, err)
		}
	}
	if kept := inUse() - before; kept > 1<<18 {
		t.Errorf("%d bytes are kept", kept)
	}
	runtime.KeepAlive(k)
	k = opened(t, d)
	hold(t, k, asking("s", 20000), nil, refused("s", 20000, api.ErrForm))
}
