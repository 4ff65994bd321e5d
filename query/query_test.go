package query_test

import (
	"math"
	"slices"
	"strconv"
	"strings"
	"testing"

	"cachetier/api"
	"cachetier/query"
	"cachetier/store"
)

// some contains a valid query of each kind, no two of whose fields can be taken for each other.
var some = []api.Query{
	{Kind: api.QRow, Table: 1, Low: 5, High: 5},
	{Kind: api.QRange, Table: 1, Column: 2, Low: -10, High: 20},
	{Kind: api.QCount, Table: 2, Column: 1, Low: -7, High: -6},
	{Kind: api.QSum, By: 3, Table: 0, Column: 2, Low: 1, High: 100},
	{Kind: api.QMin, By: 2, Table: 3, Column: 0, Low: 7, High: 8},
	{Kind: api.QMax, By: 1, Table: 2, Column: 3, Low: 0, High: 5},
	{Kind: api.QJoin, By: 1, Other: 2, Table: 0, Column: 3, Low: 4, High: 5},
}

var lines = []string{
	"row 1 5",
	"rows 1 2 -10 20",
	"count 2 1 -7 -6",
	"sum 3 of 0 2 1 100",
	"min 2 of 3 0 7 8",
	"max 1 of 2 3 0 5",
	"join 1 to 2 of 0 3 4 5",
}

// wantQuery requires of all functions what their references say of q.
func wantQuery(t *testing.T, q api.Query) {
	t.Helper()
	valid := refValid(q)
	if query.Valid(q) != valid {
		t.Fatalf("Valid(%+v) = %t", q, !valid)
	}
	want, wantErr := refPrint(q)
	line, err := query.Print(q)
	if line != want || err != wantErr {
		t.Fatalf("Print(%+v) = %q, %d; want %q, %d", q, line, err, want, wantErr)
	}
	var scan [4]int
	if valid {
		scan = [4]int{q.Table, q.Column, q.Low, q.High}
		if read, err := query.Parse(line); read != q || err != api.OK {
			t.Fatalf("Parse(%q) = %+v, %d; want %+v", line, read, err, q)
		}
	}
	if a, b, c, d := query.Scan(q); [4]int{a, b, c, d} != scan {
		t.Fatalf("Scan(%+v) = %d, %d, %d, %d; want %v", q, a, b, c, d, scan)
	}
}

// wantParse requires what the reference says of s, and that what is accepted is the line of what is returned. It returns the error.
func wantParse(t *testing.T, s string) api.Errno {
	t.Helper()
	want, wantErr := refParse(s)
	q, err := query.Parse(s)
	if q != want || err != wantErr {
		t.Fatalf("Parse(%q) = %+v, %d; want %+v, %d", s, q, err, want, wantErr)
	}
	if err != api.OK {
		return err
	}
	if line, e := query.Print(q); line != s || e != api.OK || !query.Valid(q) {
		t.Fatalf("Parse accepts %q as %+v, but Print gives %q, %d", s, q, line, e)
	}
	return err
}

// P5.1, P5.2: a line of each kind.
func TestLines(t *testing.T) {
	for i, q := range some {
		wantQuery(t, q)
		if line, err := query.Print(q); line != lines[i] || err != api.OK {
			t.Errorf("Print(%+v) = %q, %d; want %q", q, line, err, lines[i])
		}
		if read, err := query.Parse(lines[i]); read != q || err != api.OK {
			t.Errorf("Parse(%q) = %+v, %d; want %+v", lines[i], read, err, q)
		}
	}
}

// P5.1: the examples of the chapter.
func TestExamples(t *testing.T) {
	for line, q := range map[string]api.Query{
		"row 1 5":                {Kind: api.QRow, Table: 1, Low: 5, High: 5},
		"rows 1 2 -10 20":        {Kind: api.QRange, Table: 1, Column: 2, Low: -10, High: 20},
		"sum 3 of 0 0 1 100":     {Kind: api.QSum, By: 3, Low: 1, High: 100},
		"join 1 to 2 of 0 3 0 0": {Kind: api.QJoin, By: 1, Other: 2, Column: 3},
	} {
		wantQuery(t, q)
		if got, err := query.Print(q); got != line || err != api.OK {
			t.Errorf("Print(%+v) = %q, %d; want %q", q, got, err, line)
		}
	}
	for _, s := range []string{"row 1 0", "rows 1 2 20 10", "rows 1 2 -0 5", "sum 0 of 0 0 1 1", "row  1 5", "row 1 5 "} {
		if wantParse(t, s) != api.ErrQuery {
			t.Errorf("%q is a line", s)
		}
	}
}

// P5.1: the bounds of every field of every kind.
func TestBounds(t *testing.T) {
	for _, q := range some {
		for field, b := range bounds[q.Kind] {
			for _, n := range []int{b[0], b[1]} {
				x := with(q, field, n)
				switch {
				case q.Kind == api.QRow && (field == 2 || field == 3):
					x.Low, x.High = n, n
				case field == 2:
					x.High = max(x.High, n)
				case field == 3:
					x.Low = min(x.Low, n)
				}
				wantQuery(t, x)
				if !query.Valid(x) {
					t.Errorf("Valid(%+v) = false", x)
				}
			}
			for _, n := range []int{b[0] - 1, b[1] + 1, b[0] - 2, b[1] + 2, b[0] + 1<<32, math.MinInt, math.MaxInt} {
				x := with(q, field, n)
				wantQuery(t, x)
				if query.Valid(x) {
					t.Errorf("Valid(%+v) = true", x)
				}
			}
		}
	}
}

// P5.1: Low is at most High, and the same for a QRow, also where both are beyond their bounds.
func TestOrderOfBounds(t *testing.T) {
	for _, q := range some {
		for _, x := range []struct {
			low, high  int
			row, valid bool
		}{
			{9, 9, true, true},
			{9, 10, false, true},
			{10, 9, false, false},
			{-9, -9, false, true},
			{-9, -10, false, false},
			{-10, -9, false, true},
			{1000000000, -1000000000, false, false},
			{-1000000000, 1000000000, false, true},
			{1000000001, 1000000001, false, false},
			{-1000000001, -1000000001, false, false},
			{1000001, 1000001, false, true},
			{0, 0, false, true},
			{math.MaxInt, math.MinInt, false, false},
			{math.MinInt, math.MaxInt, false, false},
		} {
			y := with(with(q, 2, x.low), 3, x.high)
			want := x.valid
			if q.Kind == api.QRow {
				want = x.row
			}
			wantQuery(t, y)
			if query.Valid(y) != want {
				t.Errorf("Valid(%+v) = %t", y, !want)
			}
		}
	}
}

// P5.1: kinds that do not exist, with fields that are valid for another one.
func TestKinds(t *testing.T) {
	wantQuery(t, api.Query{})
	for _, q := range some {
		for kind := -3; kind <= 12; kind++ {
			q.Kind = kind
			wantQuery(t, q)
		}
		for _, n := range extremes() {
			q.Kind = n
			wantQuery(t, q)
		}
	}
}

// P5.1, P5.2: every combination of numbers at and beside the bounds. No two valid queries have the same line.
func TestGrid(t *testing.T) {
	ends := []int{-1000000001, -1000000000, -1, 0, 1, 2, 1000000, 1000001, 1000000000, 1000000001}
	few := []int{-1, 0, 1, 3, 4}
	seen := map[string]api.Query{}
	for kind := range 9 {
		for _, f := range combinations(few, few, ends, ends, few, few) {
			q := queryOf(kind, [6]int(f))
			wantQuery(t, q)
			note(t, seen, q)
		}
	}
	// 3 tables and 3 keys of a QRow; 3 tables, 3 columns and 36 ranges of the others, with 2 columns By of the last four, and 3 tables Other of a QJoin
	if want := 3*3 + 3*3*36*(2+3*2+2*3); len(seen) != want {
		t.Errorf("%d queries are valid; want %d", len(seen), want)
	}
}

// combinations returns all lists of one element of each of the lists, in their order.
func combinations(lists ...[]int) [][]int {
	out := [][]int{nil}
	for _, l := range lists {
		var longer [][]int
		for _, begun := range out {
			for _, n := range l {
				longer = append(longer, append(slices.Clone(begun), n))
			}
		}
		out = longer
	}
	return out
}

// note requires that no query before q had its line.
func note(t *testing.T, seen map[string]api.Query, q api.Query) {
	t.Helper()
	line, err := query.Print(q)
	if err != api.OK {
		return
	}
	if x, ok := seen[line]; ok && x != q {
		t.Fatalf("%+v and %+v have the line %q", x, q, line)
	}
	seen[line] = q
}

// P5.1, P5.2: valid queries, and others that differ from them in one number.
func TestReference(t *testing.T) {
	r := source(1)
	list := extremes()
	seen := map[string]api.Query{}
	for range 100000 {
		q := randomQuery(r)
		if !query.Valid(q) {
			t.Fatalf("Valid(%+v) = false", q)
		}
		wantQuery(t, q)
		note(t, seen, q)
		q = with(q, r.IntN(6), pick(r, list...))
		wantQuery(t, q)
		q.Kind = r.IntN(9)
		wantQuery(t, q)
	}
}

// P5.1, P5.2: other ways to write a line are no lines.
func TestNoLines(t *testing.T) {
	for _, s := range []string{
		"", " ", "  ", "\n", "\x00", "row", "row ", "row 1", "row 1 ", "row 1 5 5", "row 1 5 ", "row 1 5  ", " row 1 5", "row  1 5", "row 1  5", "row\t1\t5", "row\t1 5", "row 1 5\n", "row 1 5\r", "row 1 5\x00", "\ufeffrow 1 5", "row\u00a01 5",
		"Row 1 5", "ROW 1 5", "row1 5", "row15", "rowx 1 5", "ro 1 5", "1 1 5", "0 1 5", "-1 1 5", "8 1 5", "2 1 2 -10 20",
		"row 01 5", "row 1 05", "row 1 +5", "row 1 5.0", "row 1 5e0", "row 1 0x5", "row 1 0b101", "row 1 0o5", "row 1 1_0", "row 1 _5", "row 1 5_", "row 1 ５", "row 1 ٥", "row 1 -5", "row 1 0", "row 1 -", "row 1 +", "row 1 --5", "row 1 x", "row - 5", "row -0 5", "row +0 5", "row 00 5",
		"row 4 5", "row -1 5", "row 1 1000001", "row 1 9223372036854775807", "row 1 9223372036854775808", "row 1 18446744073709551621", "row 1 99999999999999999999", "row 1 4294967301",
		"rows 1 2", "rows 1 2 3", "rows 1 2 -10 20 5", "rows 1 2 20 10", "rows 1 2 -0 5", "rows 1 2 +1 5", "rows 1 2 -01 5", "rows 1 2 - 5", "rows 1 2 -1 05", "rows 4 2 0 0", "rows 1 4 0 0", "rows 1 -1 0 0", "rows 1 2 0 1000000001", "rows 1 2 -1000000001 0", "rows 1 2 -9223372036854775808 0", "rows 1 2 -9223372036854775809 0", "rows of 1 2 3 4", "rows 1 of 1 2 3 4", "rows 1 5",
		"count 0 0 0", "count 1 of 0 0 0 0", "count 0 0 0 0 0", "counts 0 0 0 0",
		"sum 0 of 0 0 1 1", "sum 4 of 0 0 1 1", "sum -1 of 0 0 1 1", "sum 1 to 0 0 1 1", "sum 1 0 0 1 1", "sum of 0 0 1 1", "sum 1 of of 0 0 1 1", "sum 1 Of 0 0 1 1", "sum 1 of 0 0 1", "sum 1 of", "sum 1", "sum", "sum 1 to 2 of 0 0 1 1", "sum 01 of 0 0 1 1", "sum 1  0 0 1 1", "sum 1 of  0 0 1 1", "sum 1 off 0 0 1 1", "sum 1 o 0 0 1 1", "sum 1of 0 0 1 1", "sum 1 of0 0 1 1", "sum 0 0 1 1",
		"min 1 of 0 4 0 0", "min 1 of 0 0 1 0", "max 1 of 4 0 0 0", "avg 1 of 0 0 0 0", "minimum 1 of 0 0 0 0",
		"join 1 to 4 of 0 0 0 0", "join 1 to -1 of 0 0 0 0", "join 0 to 1 of 0 0 0 0", "join 4 to 1 of 0 0 0 0", "join 1 to 2 0 0 0 0", "join 1 2 of 0 0 0 0", "join 1 2 0 0 0 0", "join 1 of 2 to 0 0 0 0", "join 1 of 0 0 0 0", "join 1 to 2", "join 1 to of 0 0 0 0", "join to 2 of 0 0 0 0", "join 1 to 02 of 0 0 0 0", "join 1 of 2 of 0 0 0 0", "join 1 to 2 to 0 0 0 0", "join 1 to 2 of 0 0 0 0 0",
	} {
		if wantParse(t, s) != api.ErrQuery {
			t.Errorf("%q is a line", s)
		}
	}
}

// P5.1, P5.2: lines with one byte less, one more, another one, or one doubled, and all beginnings and ends of lines.
func TestChangedBytes(t *testing.T) {
	const bytes = "0123456789 -+_.xowtfrsncumaijR\t\n\r\x00\x80\xff"
	for _, q := range withLong() {
		s, err := query.Print(q)
		if err != api.OK {
			t.Fatal(q)
		}
		for i := range len(s) + 1 {
			wantParse(t, s[:i])
			wantParse(t, s[i:])
			for _, b := range []byte(bytes) {
				wantParse(t, s[:i]+string([]byte{b})+s[i:])
				if i < len(s) {
					wantParse(t, s[:i]+string([]byte{b})+s[i+1:])
				}
			}
			if i < len(s) {
				wantParse(t, s[:i]+s[i+1:])
				wantParse(t, s[:i+1]+s[i:])
			}
		}
	}
}

// withLong returns a query of each kind, and one with the longest line of its kind.
func withLong() []api.Query {
	list := slices.Clone(some)
	for _, q := range some {
		if q.Kind == api.QRow {
			q.Low, q.High = 1000000, 1000000
		} else {
			q.Low, q.High = -1000000000, -1000000000
		}
		list = append(list, q)
	}
	return list
}

// P5.1, P5.2: lines with one word replaced, left out, doubled, exchanged with the next one, or added.
func TestChangedWords(t *testing.T) {
	others := []string{"", "row", "rows", "count", "sum", "min", "max", "join", "of", "to", "by", "-", "+1", "01", "-0", "00", "0.", "99999999999999999999", "-99999999999999999999"}
	for _, n := range extremes() {
		others = append(others, strconv.Itoa(n))
	}
	for _, line := range lines {
		list := strings.Split(line, " ")
		join := func(parts ...[]string) string { return strings.Join(slices.Concat(parts...), " ") }
		for i, word := range list {
			wantParse(t, join(list[:i], list[i+1:]))
			wantParse(t, join(list[:i], []string{word, word}, list[i+1:]))
			if i > 0 {
				wantParse(t, join(list[:i-1], []string{word, list[i-1]}, list[i+1:]))
			}
			for _, x := range others {
				wantParse(t, join(list[:i], []string{x}, list[i+1:]))
				wantParse(t, join(list[:i], []string{x}, list[i:]))
				wantParse(t, join(list, []string{x}))
			}
		}
	}
}

// P5.1, P5.2: sequences of words that lines consist of. Some of them are lines.
func TestRandomWords(t *testing.T) {
	r := source(2)
	words := []string{"row", "rows", "count", "sum", "min", "max", "join", "of", "to", "0", "1", "2", "3", "4", "-1", "10", "-0", ""}
	accepted := 0
	for range 300000 {
		list := []string{words[r.IntN(7)]}
		for range r.IntN(8) {
			list = append(list, words[7+r.IntN(11)])
		}
		if wantParse(t, strings.Join(list, " ")) == api.OK {
			accepted++
		}
	}
	if accepted < 100 {
		t.Errorf("only %d lines are accepted", accepted)
	}
}

// P5.1, R1: lines of any length and with any bytes.
func TestLongStrings(t *testing.T) {
	long := strings.Repeat("1", 1<<20)
	for _, s := range []string{long, "row 1 " + long, "row " + long + " 5", "rows 1 2 -" + long + " 5", "row 1 5 " + long, long + " 1 5", strings.Repeat(" ", 1<<20), "row 1 5" + strings.Repeat(" ", 1<<20), strings.Repeat("row ", 1<<18), "row 1 " + strings.Repeat("0", 1<<20) + "5", strings.Repeat("\xff", 1<<20)} {
		if wantParse(t, s) != api.ErrQuery {
			t.Errorf("%q.. is a line", s[:20])
		}
	}
	r := source(3)
	for range 20000 {
		b := make([]byte, r.IntN(50))
		for i := range b {
			b[i] = byte(r.Uint32())
		}
		wantParse(t, string(b))
	}
}

// P5.3
func TestLength(t *testing.T) {
	longest := map[int]int{}
	want := func(q api.Query) {
		line, err := query.Print(q)
		word, _, _ := strings.Cut(line, " ")
		if err != api.OK || len(line) > 42 || strings.Contains(line, "\n") || word != []string{"row", "rows", "count", "sum", "min", "max", "join"}[q.Kind-1] {
			t.Fatalf("Print(%+v) = %q, %d", q, line, err)
		}
		longest[q.Kind] = max(longest[q.Kind], len(line))
	}
	for _, q := range withLong() {
		want(q)
	}
	r := source(4)
	for range 20000 {
		want(randomQuery(r))
	}
	for i, n := range []int{13, 32, 33, 36, 36, 36, 42} {
		if longest[i+1] != n {
			t.Errorf("the longest line of the kind %d has %d bytes, not %d", i+1, longest[i+1], n)
		}
	}
}

// P5.1: the scan of each kind.
func TestScan(t *testing.T) {
	for i, want := range [][4]int{{1, 0, 5, 5}, {1, 2, -10, 20}, {2, 1, -7, -6}, {0, 2, 1, 100}, {3, 0, 7, 8}, {2, 3, 0, 5}, {0, 3, 4, 5}} {
		if a, b, c, d := query.Scan(some[i]); [4]int{a, b, c, d} != want {
			t.Errorf("Scan(%+v) = %d, %d, %d, %d; want %v", some[i], a, b, c, d, want)
		}
	}
	for _, q := range []api.Query{{}, {Kind: api.QRow, Table: 1, Low: 5, High: 6}, {Kind: api.QRow, Table: 1, Column: 1, Low: 5, High: 5}, {Kind: api.QRange, Table: 1, Column: 2, Low: 3, High: 2}, {Kind: api.QSum, Table: 1, Column: 2, Low: 2, High: 3}, {Kind: 8, Table: 1, Column: 2, Low: 2, High: 3}} {
		if a, b, c, d := query.Scan(q); a != 0 || b != 0 || c != 0 || d != 0 {
			t.Errorf("Scan(%+v) = %d, %d, %d, %d", q, a, b, c, d)
		}
	}
}

// P5.4: a state in which each value is in many rows, and each key in many tables.
func TestScanOfRow(t *testing.T) {
	s := store.New()
	for p := 1; p <= 40; p++ {
		r := api.Record{Position: p}
		for table := range 4 {
			r.Changes = append(r.Changes, api.Change{Table: table, Key: p, Has: true, New: [3]int{5, 5, p % 3}})
		}
		if err := s.Apply(r); err != api.OK {
			t.Fatal(err)
		}
		for table := range 4 {
			for key := 1; key <= 42; key++ {
				got := s.Range(query.Scan(api.Query{Kind: api.QRow, Table: table, Low: key, High: key}))
				want, ok := s.Get(table, key)
				if ok && !slices.Equal(got, []api.Row{want}) || !ok && len(got) != 0 {
					t.Fatalf("the scan of the row (%d, %d) at %d is %v", table, key, p, got)
				}
			}
		}
	}
}

// R4: a call leaves nothing behind, also after one that has failed.
func TestRepeated(t *testing.T) {
	for range 3 {
		for i, q := range some {
			wantParse(t, lines[i][1:])
			wantQuery(t, q)
			wantQuery(t, with(q, 0, 4))
			wantParse(t, lines[i]+" ")
			wantParse(t, lines[i])
		}
	}
}
