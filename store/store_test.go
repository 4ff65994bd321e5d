package store_test

import (
	"math"
	"slices"
	"testing"

	"cachetier/api"
	"cachetier/store"
)

func add(table, key int, v ...int) api.Change {
	return api.Change{Table: table, Key: key, Has: true, New: three(v)}
}

func remove(table, key int, v ...int) api.Change {
	return api.Change{Table: table, Key: key, Had: true, Old: three(v)}
}

func three(v []int) [3]int {
	var out [3]int
	copy(out[:], v)
	return out
}

// both are the records of the chapter's examples.
var both = []api.Record{
	{Position: 1, Changes: []api.Change{add(0, 5, 10, 20, 30)}},
	{Position: 2, Changes: []api.Change{add(0, 3, 10), {Key: 5, Had: true, Old: [3]int{10, 20, 30}, Has: true, New: [3]int{10, 21, 30}}}},
}

func at(t *testing.T, l []api.Record, p int) *store.State {
	t.Helper()
	s, err := store.At(l, p)
	if s == nil || err != api.OK {
		t.Fatalf("At(%d records, %d) = %v, %d", len(l), p, s, err)
	}
	return s
}

func keys(rows []api.Row) []int {
	var out []int
	for _, r := range rows {
		out = append(out, r.Key)
	}
	return out
}

// P4.1: the chapter's examples.
func TestExamples(t *testing.T) {
	s := at(t, both, 2)
	for _, x := range []struct {
		rows []api.Row
		want []int
	}{
		{s.Rows(0), []int{3, 5}},
		{s.Range(0, 1, 10, 10), []int{3, 5}},
		{s.Range(0, 2, 1, 100), []int{5}},
		{s.Range(0, 4, 0, 9), nil},
	} {
		if !slices.Equal(keys(x.rows), x.want) {
			t.Errorf("got the rows %v, want the keys %v", x.rows, x.want)
		}
	}
	if r, ok := at(t, both, 1).Get(0, 5); !ok || r != (api.Row{Key: 5, V: [3]int{10, 20, 30}}) {
		t.Errorf("Get(0, 5) at 1 = %v, %t", r, ok)
	}
	if err := s.Apply(both[0]); err != api.ErrStore {
		t.Errorf("record 1 once more: %d", err)
	}
	if err := s.Apply(api.Record{Position: 3, Changes: []api.Change{remove(0, 5, 10, 20, 30)}}); err != api.ErrStore {
		t.Errorf("a record with old values: %d", err)
	}
}

// P4.1
func TestNew(t *testing.T) {
	wantState(t, store.New(), &reference{})
	a, b := store.New(), store.New()
	if err := a.Apply(both[0]); err != api.OK {
		t.Fatal(err)
	}
	wantState(t, b, &reference{})
}

// P4.1, P4.2: long sequences of records that can be applied and of records that differ a little from them.
func TestApplyReference(t *testing.T) {
	for seed := range uint64(6) {
		r := source(seed)
		s, m := store.New(), &reference{}
		for range 60 {
			x := m.randomRecord(r)
			for _, y := range damaged(r, x) {
				want := m.apply(y)
				if err := s.Apply(y); err != want {
					t.Fatalf("Apply(%v) = %d, want %d", y, err, want)
				}
				if want == api.OK {
					break
				}
				wantState(t, s, m)
			}
			x = m.randomRecord(r)
			if err := s.Apply(x); err != api.OK || m.apply(x) != api.OK {
				t.Fatalf("Apply(%v) = %d", x, err)
			}
			wantState(t, s, m)
		}
	}
}

// P4.1: each reason to refuse a record, alone.
func TestApplyErrors(t *testing.T) {
	for _, x := range []struct {
		name string
		r    api.Record
	}{
		{"zero record", api.Record{}},
		{"no changes", api.Record{Position: 3}},
		{"the same position", api.Record{Position: 2, Changes: []api.Change{add(1, 1)}}},
		{"a position left out", api.Record{Position: 4, Changes: []api.Change{add(1, 1)}}},
		{"greatest position", api.Record{Position: math.MaxInt, Changes: []api.Change{add(1, 1)}}},
		{"least position", api.Record{Position: math.MinInt, Changes: []api.Change{add(1, 1)}}},
		{"adds a row that is there", api.Record{Position: 3, Changes: []api.Change{add(0, 3, 11)}}},
		{"adds a row that is there, with its values", api.Record{Position: 3, Changes: []api.Change{add(0, 3, 10)}}},
		{"removes a row that is not there", api.Record{Position: 3, Changes: []api.Change{remove(0, 4)}}},
		{"removes a row of another table", api.Record{Position: 3, Changes: []api.Change{remove(1, 3, 10)}}},
		{"changes a row that is not there", api.Record{Position: 3, Changes: []api.Change{{Key: 4, Had: true, Has: true, New: [3]int{1}}}}},
		{"changes a row from other values", api.Record{Position: 3, Changes: []api.Change{{Key: 3, Had: true, Has: true, New: [3]int{1}}}}},
		{"removes a row with another last value", api.Record{Position: 3, Changes: []api.Change{remove(0, 5, 10, 21, 31)}}},
		{"changes nothing", api.Record{Position: 3, Changes: []api.Change{{Key: 3, Had: true, Old: [3]int{10}, Has: true, New: [3]int{10}}}}},
		{"only the last change is wrong", api.Record{Position: 3, Changes: []api.Change{remove(0, 3, 10), add(0, 4), add(0, 5)}}},
		{"only the first change is wrong", api.Record{Position: 3, Changes: []api.Change{remove(0, 3, 11), add(0, 4)}}},
		{"descending keys", api.Record{Position: 3, Changes: []api.Change{add(0, 9), add(0, 8)}}},
		{"the same row twice", api.Record{Position: 3, Changes: []api.Change{remove(0, 3, 10), add(0, 3)}}},
		{"too many changes", api.Record{Position: 3, Changes: additions(0, 100, 9)}},
		{"a table that does not exist", api.Record{Position: 3, Changes: []api.Change{add(4, 1)}}},
		{"a key that is too great", api.Record{Position: 3, Changes: []api.Change{add(0, 1000001)}}},
	} {
		s, m := at(t, both, 2), &reference{}
		for _, y := range both {
			m.apply(y)
		}
		if err := s.Apply(x.r); err != api.ErrStore {
			t.Errorf("%s: %d", x.name, err)
		}
		wantState(t, s, m)
	}
}

// P4.1: a row whose values are zeros is not the same as no row.
func TestRowOfZeros(t *testing.T) {
	s := at(t, []api.Record{{Position: 1, Changes: []api.Change{add(0, 5)}}}, 1)
	if r, ok := s.Get(0, 5); !ok || r != (api.Row{Key: 5}) {
		t.Errorf("Get = %v, %t", r, ok)
	}
	for _, c := range []api.Change{add(0, 5), add(0, 5, 1), remove(0, 4), {Key: 4, Had: true, Has: true, New: [3]int{1}}} {
		if err := s.Apply(api.Record{Position: 2, Changes: []api.Change{c}}); err != api.ErrStore {
			t.Errorf("Apply of %v = %d", c, err)
		}
	}
	if err := s.Apply(api.Record{Position: 2, Changes: []api.Change{remove(0, 5)}}); err != api.OK || s.Len() != 0 {
		t.Errorf("the row is not removed: %d", err)
	}
}

// additions returns changes that add n rows with ascending keys from key on.
func additions(table, key, n int) []api.Change {
	var list []api.Change
	for i := range n {
		list = append(list, add(table, key+i, i))
	}
	return list
}

// full returns a state with n rows of the table 2, which have the keys from 11 on and the values 0, and its reference; n is a multiple of 8.
func full(t *testing.T, n int) (*store.State, *reference) {
	t.Helper()
	s, m := store.New(), &reference{}
	for i := range n / 8 {
		x := api.Record{Position: i + 1}
		for k := range 8 {
			x.Changes = append(x.Changes, add(2, 11+8*i+k))
		}
		if err := s.Apply(x); err != api.OK || m.apply(x) != api.OK {
			t.Fatalf("record %d: %d", i+1, err)
		}
	}
	return s, m
}

// P4.1: a state has at most 2000 rows; what counts is how many there are after the whole record.
func TestMaxRows(t *testing.T) {
	for _, x := range []struct {
		name    string
		rows    int
		changes []api.Change
		want    api.Errno
	}{
		{"one more than fits", 2000, additions(3, 1, 1), api.ErrStore},
		{"as many as fit", 1992, additions(3, 1, 8), api.OK},
		{"one of them is of another table", 1992, append(additions(0, 1, 7), add(3, 1)), api.OK},
		{"one changed", 2000, []api.Change{{Table: 2, Key: 11, Had: true, Has: true, New: [3]int{1}}}, api.OK},
		{"one removed", 2000, []api.Change{remove(2, 11)}, api.OK},
		{"one added, then one removed", 2000, []api.Change{add(0, 1), remove(2, 11)}, api.OK},
		{"one removed, then one added", 2000, []api.Change{remove(2, 11), add(3, 1)}, api.OK},
		{"two added, then one removed", 2000, []api.Change{add(0, 1), add(0, 2), remove(2, 11)}, api.ErrStore},
		{"one removed, then two added", 2000, []api.Change{remove(2, 11), add(3, 1), add(3, 2)}, api.ErrStore},
		{"four added, four removed", 2000, append(additions(0, 1, 4), remove(2, 11), remove(2, 12), remove(2, 13), remove(2, 14)), api.OK},
		{"five added, three removed", 2000, append(additions(0, 1, 5), remove(2, 11), remove(2, 12), remove(2, 13)), api.ErrStore},
		{"one changed, one added", 2000, []api.Change{add(0, 1), {Table: 2, Key: 11, Had: true, Has: true, New: [3]int{1}}}, api.ErrStore},
	} {
		s, m := full(t, x.rows)
		r := api.Record{Position: m.position + 1, Changes: x.changes}
		if err := s.Apply(r); err != x.want || m.apply(r) != x.want {
			t.Errorf("%s: %d, want %d", x.name, err, x.want)
		}
		if s.Len() != len(m.rows) || s.Position() != m.position || !slices.Equal(s.Rows(2), m.between(2, 0, 1, 1000000)) {
			t.Errorf("%s: %d rows at position %d", x.name, s.Len(), s.Position())
		}
	}
}

// P4.1, P4.2: there is no position after 10000.
func TestLastPosition(t *testing.T) {
	s := store.New()
	change := add(0, 1)
	for p := 1; p <= 10000; p++ {
		if err := s.Apply(api.Record{Position: p, Changes: []api.Change{change}}); err != api.OK || s.Position() != p {
			t.Fatalf("record %d: %d, position %d", p, err, s.Position())
		}
		change = exchanged(change)
	}
	if err := s.Apply(api.Record{Position: 10001, Changes: []api.Change{change}}); err != api.ErrStore || s.Position() != 10000 || s.Len() != 0 {
		t.Errorf("record 10001: %d", err)
	}
}

func exchanged(c api.Change) api.Change {
	return api.Change{Table: c.Table, Key: c.Key, Had: c.Has, Old: c.New, Has: c.Had, New: c.Old}
}

// P4.2: what is undone.
func TestUndo(t *testing.T) {
	r := source(20)
	s, m := store.New(), &reference{}
	for range 300 {
		before := slices.Clone(m.rows)
		x := m.randomRecord(r)
		undone := api.Record{Position: x.Position + 1}
		for _, c := range x.Changes {
			undone.Changes = append(undone.Changes, exchanged(c))
		}
		if s.Apply(x) != api.OK || m.apply(x) != api.OK {
			t.Fatalf("%v is refused", x)
		}
		if err := s.Apply(undone); err != api.OK {
			t.Fatalf("%v is not undone: %d", x, err)
		}
		m.rows, m.position = before, undone.Position
		wantState(t, s, m)
		x = m.randomRecord(r)
		if s.Apply(x) != api.OK || m.apply(x) != api.OK {
			t.Fatalf("%v is refused", x)
		}
	}
}

// P4.1: every position of a log, and those outside it.
func TestAt(t *testing.T) {
	log := randomLog(source(30), 80)
	m := &reference{}
	for p := range len(log) + 1 {
		wantState(t, at(t, log, p), m)
		wantState(t, at(t, log[:p], p), m)
		if p < len(log) {
			m.apply(log[p])
		}
	}
	for _, p := range []int{-1, len(log) + 1, math.MinInt, math.MaxInt} {
		wantNone(t, log, p)
	}
	wantState(t, at(t, nil, 0), &reference{})
	wantState(t, at(t, []api.Record{}, 0), &reference{})
	wantNone(t, nil, 1)
	wantNone(t, nil, -1)
}

func wantNone(t *testing.T, l []api.Record, p int) {
	t.Helper()
	if s, err := store.At(l, p); s != nil || err != api.ErrStore {
		t.Errorf("At(%d records, %d) = %v, %d", len(l), p, s, err)
	}
}

// P4.1: only the first p records need be such that they can be applied.
func TestAtErrors(t *testing.T) {
	r := source(31)
	log := randomLog(r, 12)
	for i := range log {
		m := &reference{}
		for _, x := range log[:i] {
			m.apply(x)
		}
		for _, x := range damaged(r, log[i]) {
			changed := slices.Clone(log)
			changed[i] = x
			other := &reference{rows: m.rows, position: m.position}
			if other.apply(x) == api.OK {
				continue
			}
			wantState(t, at(t, changed, i), m)
			for p := i + 1; p <= len(log); p++ {
				wantNone(t, changed, p)
			}
		}
		wantNone(t, slices.Insert(slices.Clone(log), i, log[i]), len(log)+1)
		if i < len(log)-1 {
			wantNone(t, slices.Delete(slices.Clone(log), i, i+1), len(log)-1)
		}
	}
}

// P4.3: the last change of each row decides.
func TestLastChanges(t *testing.T) {
	log := randomLog(source(32), 200)
	for p := 0; p <= len(log); p += 7 {
		last := map[[2]int]api.Change{}
		for _, x := range log[:p] {
			for _, c := range x.Changes {
				last[[2]int{c.Table, c.Key}] = c
			}
		}
		var want []api.Row
		for _, c := range last {
			if c.Has {
				want = append(want, api.Row{Table: c.Table, Key: c.Key, V: c.New})
			}
		}
		slices.SortFunc(want, byPlace)
		s := at(t, log, p)
		var got []api.Row
		for table := range 4 {
			got = append(got, s.Rows(table)...)
		}
		if !slices.Equal(got, want) || s.Len() != len(want) {
			t.Fatalf("the rows at %d are %v; want %v", p, got, want)
		}
	}
}

// bounds returns values at which ranges of values or keys may begin or end.
func bounds(m *reference, table, col int) []int {
	list := []int{math.MinInt, math.MinInt + 1, math.MaxInt, math.MaxInt - 1, -1000000001, -1000000000, -1, 0, 1, 2, 1000000, 1000000000, 1000000001}
	for i, r := range m.between(table, col, math.MinInt, math.MaxInt) {
		if i < 6 {
			list = append(list, column(r, col), column(r, col)+1, column(r, col)-1)
		}
	}
	slices.Sort(list)
	return slices.Compact(list)
}

// P4.1: ranges with every pair of bounds, also descending ones.
func TestRangeReference(t *testing.T) {
	r := source(40)
	log := randomLog(r, 60)
	for p := 0; p <= len(log); p += 12 {
		s, m := at(t, log, p), &reference{}
		for _, x := range log[:p] {
			m.apply(x)
		}
		for table := -1; table <= 4; table++ {
			for col := -1; col <= 4; col++ {
				wantRanges(t, s, m, table, col)
			}
		}
	}
}

func wantRanges(t *testing.T, s *store.State, m *reference, table, col int) {
	t.Helper()
	list := bounds(m, table, min(max(col, 0), 3))
	for _, low := range list {
		for _, high := range list {
			if got, want := s.Range(table, col, low, high), m.between(table, col, low, high); !slices.Equal(got, want) {
				t.Fatalf("Range(%d, %d, %d, %d) = %v; want %v", table, col, low, high, got, want)
			}
		}
	}
}

// P4.1: columns and tables that do not exist.
func TestRangeOfNothing(t *testing.T) {
	s := at(t, both, 2)
	for _, n := range []int{-1, -2, 4, 5, 1 << 32, math.MinInt, math.MaxInt} {
		if got := s.Range(0, n, math.MinInt, math.MaxInt); len(got) != 0 {
			t.Errorf("Range of the column %d = %v", n, got)
		}
		if got := s.Range(n, 0, math.MinInt, math.MaxInt); len(got) != 0 {
			t.Errorf("Range of the table %d = %v", n, got)
		}
		if got := s.Rows(n); len(got) != 0 {
			t.Errorf("Rows(%d) = %v", n, got)
		}
		if got, ok := s.Get(n, 5); ok || got != (api.Row{}) {
			t.Errorf("Get(%d, 5) = %v, %t", n, got, ok)
		}
	}
	for _, n := range []int{-5, 0, 4, 6, 1<<32 + 5, math.MinInt, math.MaxInt} {
		if got, ok := s.Get(0, n); ok || got != (api.Row{}) {
			t.Errorf("Get(0, %d) = %v, %t", n, got, ok)
		}
	}
}

// P4.1: rows with the same value are in the order of their keys, not of when they came.
func TestOrderOfEqualValues(t *testing.T) {
	s := store.New()
	for i, key := range []int{7, 1000000, 1, 90, 8, 300, 2, 11} {
		if err := s.Apply(api.Record{Position: i + 1, Changes: []api.Change{add(1, key, 4, -key, -4)}}); err != api.OK {
			t.Fatal(err)
		}
	}
	ascending := []int{1, 2, 7, 8, 11, 90, 300, 1000000}
	descending := slices.Clone(ascending)
	slices.Reverse(descending)
	for col, want := range [][]int{ascending, ascending, descending, ascending} {
		for range 20 {
			if got := keys(s.Range(1, col, math.MinInt, math.MaxInt)); !slices.Equal(got, want) {
				t.Fatalf("Range of the column %d: keys %v, want %v", col, got, want)
			}
		}
	}
	if got := keys(s.Range(1, 2, -90, -8)); !slices.Equal(got, []int{90, 11, 8}) {
		t.Errorf("a part of the column 2: keys %v", got)
	}
}

// P4.4: divisions of all values into ranges.
func TestDivisions(t *testing.T) {
	r := source(41)
	log := randomLog(r, 120)
	for range 60 {
		p := r.IntN(len(log) + 1)
		s := at(t, log, p)
		for table := range 4 {
			for col := range 4 {
				var cuts []int
				for range r.IntN(12) {
					cuts = append(cuts, pick(r, r.IntN(12)-4, r.IntN(2000000001)-1000000000, 1000000, 1000000000, -1000000000))
				}
				wantDivision(t, s, table, col, cuts)
			}
			if got, want := s.Range(table, 0, 1, 1000000), s.Rows(table); !slices.Equal(got, want) {
				t.Fatalf("the range of all keys is %v; Rows %v", got, want)
			}
		}
	}
}

func wantDivision(t *testing.T, s *store.State, table, col int, cuts []int) {
	t.Helper()
	slices.Sort(cuts)
	low := math.MinInt
	var got []api.Row
	for _, c := range slices.Compact(cuts) {
		got = append(got, s.Range(table, col, low, c)...)
		low = c + 1
	}
	got = append(got, s.Range(table, col, low, math.MaxInt)...)
	if !slices.IsSortedFunc(got, func(a, b api.Row) int { return column(a, col) - column(b, col) }) {
		t.Fatalf("the ranges of the column %d, cut at %v, are not in order: %v", col, cuts, got)
	}
	slices.SortFunc(got, byPlace)
	if want := s.Rows(table); !slices.Equal(got, want) {
		t.Fatalf("the ranges of the column %d, cut at %v, have the rows %v; want %v", col, cuts, got, want)
	}
}

// P4.1: a clone and its original go on apart from each other.
func TestClone(t *testing.T) {
	r := source(50)
	log := randomLog(r, 40)
	for p := range len(log) + 1 {
		s, m := at(t, log, p), &reference{}
		for _, x := range log[:p] {
			m.apply(x)
		}
		other := s.Clone()
		if other == s {
			t.Fatal("a clone is its original")
		}
		wantState(t, other, m)
		n := &reference{rows: slices.Clone(m.rows), position: m.position}
		for range 3 {
			goOn(t, s, m, m.randomRecord(r))
			wantState(t, other, n)
			goOn(t, other, n, n.randomRecord(r))
			wantState(t, s, m)
			wantState(t, other, n)
		}
	}
}

func goOn(t *testing.T, s *store.State, m *reference, x api.Record) {
	t.Helper()
	if err := s.Apply(x); err != api.OK || m.apply(x) != api.OK {
		t.Fatalf("Apply(%v) = %d", x, err)
	}
}

// P4.1, R4
func TestNil(t *testing.T) {
	var s *store.State
	for _, r := range []api.Record{both[0], {}} {
		if err := s.Apply(r); err != api.ErrNil {
			t.Errorf("Apply = %d", err)
		}
	}
	if s.Position() != 0 || s.Len() != 0 || s.Clone() != nil {
		t.Error("a nil state has a position, rows or a clone")
	}
	if r, ok := s.Get(0, 5); ok || r != (api.Row{}) {
		t.Errorf("Get = %v, %t", r, ok)
	}
	if len(s.Rows(0)) != 0 || len(s.Range(0, 0, math.MinInt, math.MaxInt)) != 0 || len(s.Range(0, 9, 0, 0)) != 0 {
		t.Error("a nil state has rows")
	}
}

// R3: records are neither kept nor modified.
func TestArguments(t *testing.T) {
	r := source(60)
	log := randomLog(r, 30)
	given := make([]api.Record, 0, len(log)+5)
	for _, x := range log {
		given = append(given, api.Record{Position: x.Position, Changes: append(make([]api.Change, 0, 12), x.Changes...)})
	}
	s, m := store.New(), &reference{}
	for i, x := range given {
		s.Apply(x)
		m.apply(log[i])
	}
	all := at(t, given, len(given))
	for i, x := range given {
		if x.Position != log[i].Position || !slices.Equal(x.Changes, log[i].Changes) {
			t.Fatalf("the record %d is modified", i+1)
		}
		for _, c := range x.Changes[len(x.Changes):cap(x.Changes)] {
			if c != (api.Change{}) {
				t.Fatal("spare capacity is written to")
			}
		}
		clear(x.Changes[:cap(x.Changes)])
	}
	clear(given[:cap(given)])
	wantState(t, s, m)
	wantState(t, all, m)
}

// R3: results are new memory, including their spare capacity.
func TestResults(t *testing.T) {
	log := randomLog(source(61), 30)
	s, m := at(t, log, 30), &reference{}
	for _, x := range log {
		m.apply(x)
	}
	lists := func() [][]api.Row {
		return [][]api.Row{s.Rows(0), s.Rows(0), s.Range(0, 1, math.MinInt, math.MaxInt), s.Range(0, 0, 1, 9)}
	}
	kept := lists()
	want := lists()
	for _, l := range lists() {
		clear(l[:cap(l)])
	}
	for i := range kept {
		if !slices.Equal(kept[i], want[i]) {
			t.Fatal("results share memory")
		}
		clear(kept[i][:cap(kept[i])])
		for _, l := range kept[i+1:] {
			if len(l) > 0 && l[0] == (api.Row{}) {
				t.Fatal("results share memory")
			}
		}
	}
	wantState(t, s, m)
}
