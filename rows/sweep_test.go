package rows_test

import (
	"math/rand"
	"regexp"
	"slices"
	"strconv"
	"strings"
	"testing"

	"hushhouse/api"
	"hushhouse/rows"
)

// everyCell is all rows that there may be, each behind those that are less.
func everyCell(l []api.Column) [][]int {
	out := [][]int{nil}
	for _, c := range l {
		var more [][]int
		for _, row := range out {
			for v := range c.Size {
				more = append(more, append(slices.Clone(row), v))
			}
		}
		out = more
	}
	return out
}

// sorted is a table with its rows in order.
func sorted(t api.Table) api.Table {
	t = copied(t)
	slices.SortFunc(t.Rows, slices.Compare[[]int])
	return t
}

func anyTable(r *rand.Rand) api.Table {
	var l []api.Column
	for i := range 1 + r.Intn(3) {
		l = append(l, c("column_"+string(rune('a'+i)), 1+r.Intn(4)))
	}
	t := api.Table{Columns: l}
	for range r.Intn(9) {
		var row []int
		for _, c := range l {
			row = append(row, r.Intn(c.Size))
		}
		t.Rows = append(t.Rows, row)
	}
	return t
}

// TestCellsSweep counts row by row, and goes back again.
func TestCellsSweep(t *testing.T) {
	r := rand.New(rand.NewSource(4))
	for range 400 {
		x := anyTable(r)
		var want []int
		for _, row := range everyCell(x.Columns) {
			n := 0
			for _, other := range x.Rows {
				if slices.Equal(row, other) {
					n++
				}
			}
			want = append(want, n)
		}
		got, err := rows.Cells(x)
		if err != api.OK || !slices.Equal(got, want) {
			t.Fatalf("Cells of %v is %v, %d, not %v", x, got, err, want)
		}
		if back, err := rows.FromCells(x.Columns, got); err != api.OK || !equal(back, sorted(x)) {
			t.Fatalf("FromCells of %v is %v, %d", got, back, err)
		}
	}
}

// cost is how many rows must come or go, each row that both have taken off both.
func cost(a, b api.Table) int {
	left := copied(b).Rows
	n := 0
	for _, row := range a.Rows {
		at := slices.IndexFunc(left, func(other []int) bool { return slices.Equal(row, other) })
		if at < 0 {
			n++
			continue
		}
		left = slices.Delete(left, at, at+1)
	}
	return n + len(left)
}

func TestApartSweep(t *testing.T) {
	r := rand.New(rand.NewSource(5))
	for range 2000 {
		a, b := anyTable(r), anyTable(r)
		want, wantErr := 0, api.ErrFit
		if slices.Equal(a.Columns, b.Columns) {
			want, wantErr = cost(a, b), api.OK
		}
		if got, err := rows.Apart(a, b); got != want || err != wantErr {
			t.Fatalf("Apart of %v and %v is %d, %d, not %d, %d", a, b, got, err, want, wantErr)
		}
	}
}

// TestNearSweep: those that are near are all that are one row away, each once, in their order.
func TestNearSweep(t *testing.T) {
	r := rand.New(rand.NewSource(6))
	for range 300 {
		x := anyTable(r)
		var want []api.Table
		for _, row := range everyCell(x.Columns) {
			at := slices.IndexFunc(x.Rows, func(other []int) bool { return slices.Equal(row, other) })
			if at >= 0 {
				less := copied(x)
				less.Rows = slices.Delete(less.Rows, at, at+1)
				want = append(want, sorted(less))
			}
			more := copied(x)
			more.Rows = append(more.Rows, row)
			want = append(want, sorted(more))
		}
		got := near(x)
		if !slices.EqualFunc(got, want, equal) {
			t.Fatalf("Near of %v: %v comes, not %v", x, got, want)
		}
		for _, y := range got {
			if n, err := rows.Apart(x, y); n != 1 || err != api.OK {
				t.Fatalf("Apart of %v and %v, which is near, is %d, %d", x, y, n, err)
			}
		}
	}
}

// A text that may go on, and one that is whole, as T4 writes them: any digits are a number here.
var (
	headSoFar = regexp.MustCompile(`^([a-z_]{1,32}:[0-9]+ )*([a-z_]{0,32}|[a-z_]{1,32}:[0-9]*)$`)
	headWhole = regexp.MustCompile(`^([a-z_]{1,32}:[0-9]+ )*[a-z_]{1,32}:[0-9]+\n$`)
	numbers   = regexp.MustCompile(`[0-9]+`)
	names     = regexp.MustCompile(`[a-z_]+`)
)

func rowSoFar(columns int) *regexp.Regexp {
	return regexp.MustCompile(`^([0-9]+ ){0,` + strconv.Itoa(columns-1) + `}[0-9]*$`)
}

func rowWhole(columns int) *regexp.Regexp {
	return regexp.MustCompile(`^([0-9]+ ){` + strconv.Itoa(columns-1) + `}[0-9]+\n$`)
}

// lineFault is the first byte of a line (behind what is ahead of it) that can't go on: a wrong number's first one, or the first one with which it is no beginning; -1, if the line is whole.
func lineFault(line string, soFar, whole *regexp.Regexp) int {
	good := 0
	for good < len(line) && soFar.MatchString(line[:good+1]) {
		good++
	}
	for _, at := range numbers.FindAllStringIndex(line[:good], -1) {
		digits := line[at[0]:at[1]]
		if n, err := strconv.ParseInt(digits, 10, 64); err != nil || n >= 1<<31 || strconv.FormatInt(n, 10) != digits {
			return at[0]
		}
	}
	if whole.MatchString(line) {
		return -1
	}
	return good
}

func ints(line string) []int {
	var out []int
	for _, digits := range numbers.FindAllString(line, -1) {
		n, _ := strconv.Atoi(digits)
		out = append(out, n)
	}
	return out
}

// slowRead is Read, line by line.
func slowRead(s string) (api.Table, api.Fault) {
	lines := strings.SplitAfter(s, "\n")
	if at := lineFault(lines[0], headSoFar, headWhole); at >= 0 {
		return api.Table{}, api.Fault{Err: api.ErrForm, At: at}
	}
	t := api.Table{}
	sizes := ints(lines[0])
	for i, name := range names.FindAllString(lines[0], -1) {
		t.Columns = append(t.Columns, c(name, sizes[i]))
	}
	if err := rows.Columns(t.Columns); err != api.OK {
		return api.Table{}, api.Fault{Err: err}
	}
	from := len(lines[0])
	for _, line := range lines[1:] {
		if line == "" {
			break
		}
		if at := lineFault(line, rowSoFar(len(sizes)), rowWhole(len(sizes))); at >= 0 {
			return api.Table{}, api.Fault{Err: api.ErrForm, At: from + at}
		}
		row := ints(line)
		if err := rows.Wrong(table(t.Columns, row)); err != api.OK {
			return api.Table{}, api.Fault{Err: err, At: from}
		}
		t.Rows = append(t.Rows, row)
		from += len(line)
	}
	return t, api.Fault{}
}

func holdRead(t *testing.T, s string) {
	t.Helper()
	want, wantFault := slowRead(s)
	got, fault := rows.Read(s)
	if fault != wantFault || !equal(got, want) {
		t.Fatalf("Read of %q is %v, %v, not %v, %v", s, got, fault, want, wantFault)
	}
}

// TestReadOfAllShortTexts goes through all texts of up to six bytes out of a few.
func TestReadOfAllShortTexts(t *testing.T) {
	const few = "ab:012 \nB"
	var all func(s string)
	all = func(s string) {
		holdRead(t, s)
		if len(s) == 6 || !headSoFar.MatchString(s) && !strings.Contains(s, "\n") {
			return // none that begins so can go on
		}
		for i := range few {
			all(s + few[i:i+1])
		}
	}
	all("")
	for _, head := range []string{"a:2\n", "a:2 b:3\n", "a:2 b:3\n1 2\n"} {
		var behind func(s string)
		behind = func(s string) {
			holdRead(t, head+s)
			if len(s) == 5 {
				return
			}
			for _, b := range []string{"0", "1", "2", " ", "\n", "a"} {
				behind(s + b)
			}
		}
		behind("")
	}
}

// TestReadSweep changes, drops and lays in bytes of texts that are right.
func TestReadSweep(t *testing.T) {
	r := rand.New(rand.NewSource(7))
	const few = "ab_z:0129 \n\x00A"
	for range 6000 {
		s, _ := rows.Print(anyTable(r))
		b := []byte(s)
		for range r.Intn(4) {
			at := r.Intn(len(b) + 1)
			letter := few[r.Intn(len(few))]
			switch {
			case at == len(b) || r.Intn(3) == 0:
				b = slices.Insert(b, at, letter)
			case r.Intn(2) == 0:
				b = slices.Delete(b, at, at+1)
			default:
				b[at] = letter
			}
		}
		holdRead(t, string(b))
	}
}

// TestPrintSweep: what is written is read as it was, but for the order of rows.
func TestPrintSweep(t *testing.T) {
	r := rand.New(rand.NewSource(8))
	for range 500 {
		x := anyTable(r)
		s, err := rows.Print(x)
		if err != api.OK {
			t.Fatalf("Print of %v is %d", x, err)
		}
		want, fault := slowRead(s)
		if fault != (api.Fault{}) || !equal(want, sorted(x)) {
			t.Fatalf("Print of %v is %q", x, s)
		}
	}
}
