package rows_test

import (
	"fmt"
	"slices"
	"strings"
	"testing"

	"hushhouse/api"
	"hushhouse/rows"
)

func TestPrint(t *testing.T) {
	long := strings.Repeat("z", 32)
	for _, x := range []struct {
		t    api.Table
		want string
	}{
		{table([]api.Column{c("age", 3), c("sex", 2)}, []int{2, 1}, []int{0, 0}, []int{2, 1}), "age:3 sex:2\n0 0\n2 1\n2 1\n"},
		{table(sized(1)), "a:1\n"},
		{table(sized(3, 2)), "a:3 b:2\n"},
		{table(sized(api.MaxCells), []int{4095}, []int{9}, []int{1000}, []int{10}), "a:4096\n9\n10\n1000\n4095\n"},
		{table(sized(1, 2, 1, 11, 1, 2), []int{0, 1, 0, 10, 0, 0}, []int{0, 1, 0, 2, 0, 1}), "a:1 b:2 c:1 d:11 e:1 f:2\n0 1 0 2 0 1\n0 1 0 10 0 0\n"},
		{table([]api.Column{c(long, 2), c("_", 1)}, []int{1, 0}), long + ":2 _:1\n1 0\n"},
	} {
		if got, err := rows.Print(x.t); err != api.OK || got != x.want {
			t.Errorf("Print of %s is %q, %d, not %q", short(x.t), got, err, x.want)
		}
	}
}

// wordy has texts as long as a right table's can be: names of 32 letters, and rows of 15 bytes.
func wordy() api.Table {
	var l []api.Column
	for i, n := range []int{1, 1, 4096, 1, 1, 1} {
		l = append(l, c(strings.Repeat(string(rune('a'+i)), 32), n))
	}
	return table(l, times(api.MaxRows, 0, 0, 4095, 0, 0, 0)...)
}

func TestPrintOfTheLongest(t *testing.T) {
	x := wordy()
	got, err := rows.Print(x)
	head := ""
	for i, l := range x.Columns {
		head += strings.Repeat(" ", min(i, 1)) + l.Name + ":" + fmt.Sprint(l.Size)
	}
	if want := head + "\n" + strings.Repeat("0 0 4095 0 0 0\n", api.MaxRows); err != api.OK || got != want {
		t.Errorf("Print of the longest is %.80q and so on, %d bytes, %d", got, len(got), err)
	}
	if back, fault := rows.Read(got); fault != (api.Fault{}) || !equal(back, x) {
		t.Errorf("Read of the longest is %s, %v", short(back), fault)
	}
}

func TestRead(t *testing.T) {
	long := strings.Repeat("z", 32)
	for _, x := range []struct {
		s    string
		want api.Table
	}{
		{"a:1\n", table(sized(1))},
		{"a:4096\n4095\n0\n10\n", table(sized(4096), []int{4095}, []int{0}, []int{10})},
		{"age:3 sex:2\n2 1\n0 0\n2 1\n", table([]api.Column{c("age", 3), c("sex", 2)}, []int{2, 1}, []int{0, 0}, []int{2, 1})},
		{"a:1 b:2 c:1 d:11 e:1 f:2\n0 1 0 10 0 0\n0 1 0 2 0 1\n", table(sized(1, 2, 1, 11, 1, 2), []int{0, 1, 0, 10, 0, 0}, []int{0, 1, 0, 2, 0, 1})},
		{long + ":2 _:1\n1 0\n", table([]api.Column{c(long, 2), c("_", 1)}, []int{1, 0})},
	} {
		if got, fault := rows.Read(x.s); fault != (api.Fault{}) || !equal(got, x.want) {
			t.Errorf("Read of %q is %s, %v, not %s", x.s, short(got), fault, short(x.want))
		}
	}
}

type faultCase struct {
	s   string
	err api.Errno
	at  int
}

func testFaults(t *testing.T, cases []faultCase) {
	t.Helper()
	for _, x := range cases {
		got, fault := rows.Read(x.s)
		if fault != (api.Fault{Err: x.err, At: x.at}) || !empty(got) {
			t.Errorf("Read of %.60q is %s, %v, not %d at %d", x.s, short(got), fault, x.err, x.at)
		}
	}
}

func TestReadForm(t *testing.T) {
	long := strings.Repeat("z", 32)
	testFaults(t, []faultCase{
		// names
		{"\n", api.ErrForm, 0},
		{":1\n", api.ErrForm, 0},
		{"A:1\n", api.ErrForm, 0},
		{"aB:1\n", api.ErrForm, 1},
		{"a1:1\n", api.ErrForm, 1},
		{"a:1 :2\n", api.ErrForm, 4},
		{"a:1 B:2\n", api.ErrForm, 4},
		{"a:1 b\x00:2\n", api.ErrForm, 5},
		{"\xffa:1\n", api.ErrForm, 0},
		{long + "z:1\n", api.ErrForm, 32},
		{"a:1 " + long + "z:1\n", api.ErrForm, 36},
		{"a:1 " + long + "zz", api.ErrForm, 36},
		{"a:1 " + long + "Z:1\n", api.ErrForm, 36},
		// colons, spaces and line feeds in the first line
		{"a\n", api.ErrForm, 1},
		{"a 1\n", api.ErrForm, 1},
		{"a::1\n", api.ErrForm, 2},
		{"a: 1\n", api.ErrForm, 2},
		{"a :1\n", api.ErrForm, 1},
		{" a:1\n", api.ErrForm, 0},
		{"\na:1\n", api.ErrForm, 0},
		{"a:1 \n", api.ErrForm, 4},
		{"a:1  b:2\n", api.ErrForm, 4},
		{"a:1b:2\n", api.ErrForm, 3},
		{"a:1,b:2\n", api.ErrForm, 3},
		{"a:1\tb:2\n", api.ErrForm, 3},
		{"a:1\r\n", api.ErrForm, 3},
		{"a:1\x00\n", api.ErrForm, 3},
		{"a:\n", api.ErrForm, 2},
		{"a:x\n", api.ErrForm, 2},
		{"a:-1\n", api.ErrForm, 2},
		{"a:+1\n", api.ErrForm, 2},
		{"a:1_0\n", api.ErrForm, 3},
		{"a:0x1\n", api.ErrForm, 3},
		// rows
		{"a:2\n\n", api.ErrForm, 4},
		{"a:2\n1\n\n", api.ErrForm, 6},
		{"a:2\n 1\n", api.ErrForm, 4},
		{"a:2\n1 \n", api.ErrForm, 5},
		{"a:2\n1 1\n", api.ErrForm, 5},
		{"a:2 b:2\n1\n", api.ErrForm, 9},
		{"a:2 b:2\n1 \n", api.ErrForm, 10},
		{"a:2 b:2\n1  1\n", api.ErrForm, 10},
		{"a:2 b:2\n1 1 1\n", api.ErrForm, 11},
		{"a:2 b:2\n1,1\n", api.ErrForm, 9},
		{"a:2 b:2\n1:1\n", api.ErrForm, 9},
		{"a:2 b:2\n1\n1\n", api.ErrForm, 9},
		{"a:2\nx\n", api.ErrForm, 4},
		{"a:2\n-1\n", api.ErrForm, 4},
		{"a:2\n1x\n", api.ErrForm, 5},
		{"a:2\n1\r\n", api.ErrForm, 5},
		{"a:2\n1\n1\nb\n", api.ErrForm, 8},
	})
}

func TestReadNumbers(t *testing.T) {
	huge := strings.Repeat("9", 60000)
	testFaults(t, []faultCase{
		{"a:00\n", api.ErrForm, 2},
		{"a:01\n", api.ErrForm, 2},
		{"a:0001", api.ErrForm, 2},
		{"a:01x\n", api.ErrForm, 2},
		{"a:1 b:010\n", api.ErrForm, 6},
		{"a:2147483647\n", api.ErrRange, 0},
		{"a:2147483648\n", api.ErrForm, 2},
		{"a:2147483648", api.ErrForm, 2},
		{"a:4294967297\n", api.ErrForm, 2},
		{"a:18446744073709551617\n", api.ErrForm, 2},
		{"a:" + huge + "\n", api.ErrForm, 2},
		{"a:0\n", api.ErrRange, 0},
		{"a:2 b:2\n1 00\n", api.ErrForm, 10},
		{"a:2 b:2\n01 1\n", api.ErrForm, 8},
		{"a:2 b:2\n1 2147483647\n", api.ErrRange, 8},
		{"a:2 b:2\n1 2147483648\n", api.ErrForm, 10},
		{"a:2\n18446744073709551617\n", api.ErrForm, 4},
		{"a:2\n" + huge + "\n", api.ErrForm, 4},
		{"a:2\n0" + huge + "\n", api.ErrForm, 4},
	})
}

// TestReadEndsTooEarly: a text that may stop behind each line feed, and nowhere else.
func TestReadEndsTooEarly(t *testing.T) {
	s := "age:12 s_x:2 c:1\n11 1 0\n0 0 0\n10 1 0\n"
	for n := range len(s) + 1 {
		got, fault := rows.Read(s[:n])
		if n > 0 && s[n-1] == '\n' {
			if fault != (api.Fault{}) || len(got.Columns) != 3 || len(got.Rows) != strings.Count(s[:n], "\n")-1 {
				t.Errorf("Read of %q is %s, %v", s[:n], short(got), fault)
			}
			continue
		}
		if fault != (api.Fault{Err: api.ErrForm, At: n}) || !empty(got) {
			t.Errorf("Read of %q is %s, %v", s[:n], short(got), fault)
		}
	}
}

func TestReadColumns(t *testing.T) {
	testFaults(t, []faultCase{
		{"a:1 b:1 c:1 d:1 e:1 f:1 g:1\n", api.ErrMany, 0},
		{"a:1 b:1 c:1 d:1 e:1 f:1 a:0\n", api.ErrMany, 0},
		{strings.Repeat("a:1 ", 16000) + "a:1\n", api.ErrMany, 0},
		{"a:2 a:2\n", api.ErrName, 0},
		{"a:2 b:0\n", api.ErrRange, 0},
		{"a:4097\n", api.ErrRange, 0},
		{"a:64 b:65\n", api.ErrMuch, 0},
		// it is told ahead of what is wrong behind the first line, and behind what is wrong in it
		{"a:2 a:2\nx", api.ErrName, 0},
		{"a:2 a:2\n9 9\n", api.ErrName, 0},
		{"a:64 b:65\n" + strings.Repeat("0 0\n", 5000), api.ErrMuch, 0},
		{"a:0 a:0", api.ErrForm, 7},
		{"a:0 a:0 \n", api.ErrForm, 8},
		{"a:0 a:00\n", api.ErrForm, 6},
		{"a:1 b:1 c:1 d:1 e:1 f:1 g:1 H:1\n", api.ErrForm, 28},
	})
}

func TestReadRows(t *testing.T) {
	full := "a:2\n" + strings.Repeat("1\n", api.MaxRows)
	testFaults(t, []faultCase{
		{"a:2\n2\n", api.ErrRange, 4},
		{"a:2\n1\n0\n2\n0\n", api.ErrRange, 8},
		{"a:2 b:12\n1 11\n1 12\n", api.ErrRange, 14},
		{"a:2 b:12\n2 12\n", api.ErrRange, 9},
		{"a:2 b:12\n2 0\nx", api.ErrRange, 9},
		// of a row that isn't read to its end nothing more is told
		{"a:2 b:12\n2 12", api.ErrForm, 13},
		{"a:2 b:12\n2 012\n", api.ErrForm, 11},
		{"a:2 b:12\n2 x\n", api.ErrForm, 11},
		{"a:2\n2", api.ErrForm, 5},
		// one more than MaxRows
		{full + "1\n", api.ErrMuch, len(full)},
		{full + "1\nx", api.ErrMuch, len(full)},
		{full + "1\n2\n", api.ErrMuch, len(full)},
		{full + "2\n", api.ErrRange, len(full)},
		{full + "1", api.ErrForm, len(full) + 1},
		{full + "\n", api.ErrForm, len(full)},
		{full + "1 1\n", api.ErrForm, len(full) + 1},
		{full[:len(full)-2] + "2\n1\n", api.ErrRange, len(full) - 2},
	})
	got, fault := rows.Read(full)
	if fault != (api.Fault{}) || !equal(got, table(sized(2), times(api.MaxRows, 1)...)) {
		t.Errorf("Read of MaxRows rows is %s, %v", short(got), fault)
	}
}

func TestReadLength(t *testing.T) {
	// no right table is so long: what is wrong behind the first line is met, and at its own place
	text := func(n int) string {
		s := "a:2\n" + strings.Repeat("1\n", 4000)
		return s + strings.Repeat("x", n-len(s))
	}
	testFaults(t, []faultCase{
		{text(api.MaxText), api.ErrForm, 8004},
		{text(api.MaxText + 1), api.ErrMuch, 0},
		{strings.Repeat("9", api.MaxText), api.ErrForm, 0},
		{strings.Repeat("9", api.MaxText+1), api.ErrMuch, 0},
		{"a:2\n" + strings.Repeat("1\n", api.MaxText/2-2), api.ErrMuch, 4 + 2*api.MaxRows},
		{"a:2\n" + strings.Repeat("1\n", api.MaxText/2-1), api.ErrMuch, 0},
		{"a:" + strings.Repeat("1", api.MaxText-2), api.ErrForm, 2},
		{"a:" + strings.Repeat("1", api.MaxText-1), api.ErrMuch, 0},
		{"a:1 " + strings.Repeat("b", api.MaxText-4), api.ErrForm, 36},
	})
}

func TestReadOfWhatPrintWrites(t *testing.T) {
	mixed := table(sized(3, 1, 5), []int{2, 0, 4}, []int{0, 0, 3}, []int{2, 0, 1}, []int{0, 0, 3})
	for _, x := range []api.Table{table(sized(1)), mixed, table(sized(12, 11), times(300, 10, 9)...)} {
		s, err := rows.Print(x)
		if err != api.OK {
			t.Fatalf("Print of %s is %d", short(x), err)
		}
		back, fault := rows.Read(s)
		sorted := slices.Clone(x.Rows)
		slices.SortFunc(sorted, slices.Compare[[]int])
		if fault != (api.Fault{}) || !equal(back, table(x.Columns, sorted...)) {
			t.Errorf("Read of %.60q is %s, %v", s, short(back), fault)
		}
	}
}
