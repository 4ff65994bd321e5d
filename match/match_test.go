package match_test

import (
	"maps"
	"math"
	"slices"
	"testing"

	"cachetier/api"
	"cachetier/match"
	"cachetier/query"
)

// P8.1: the chapter's examples.
func TestExamples(t *testing.T) {
	x := match.New()
	for i, line := range []string{"row 0 5", "count 0 1 10 19", "sum 2 of 0 1 10 19", "join 2 to 1 of 0 1 10 19"} {
		mustAdd(t, x, 1+i, parsed(t, line))
	}
	for _, e := range []struct {
		c    api.Change
		want []int
	}{
		{added(line(0, 5, 12, 7, 0)), []int{1, 2, 3, 4}},
		{changed(line(0, 6, 12, 0, 0), 13, 0, 0), []int{4}},
		{changed(line(0, 6, 12, 1, 0), 25, 1, 0), []int{2, 3, 4}},
		{removed(line(0, 6, 25, 1, 0)), nil},
		{added(line(1, 3, 0, 0, 0)), []int{4}},
	} {
		if got := x.Match(record(e.c)); !slices.Equal(got, e.want) {
			t.Errorf("Match(%+v) = %v, want %v", e.c, got, e.want)
		}
	}
}

// P8.1: the example of DOC.md: which queries does transaction 2 touch?
func TestTransaction(t *testing.T) {
	x := match.New()
	lines := []string{"row 0 5", "count 0 1 10 19", "max 2 of 0 1 10 10", "row 0 6", "row 1 2", "row 2 2", "join 2 to 1 of 3 1 0 0", "join 2 to 2 of 3 1 0 0", "min 3 of 0 0 6 6", "rows 1 2 31 31", "rows 1 2 32 99"}
	for i, line := range lines {
		mustAdd(t, x, -i, parsed(t, line))
	}
	got := x.Match(api.Record{Position: 2, Changes: []api.Change{added(line(0, 6, 11, 9, 7)), added(line(1, 2, 30, 31, 32))}})
	if want := []int{-9, -8, -6, -4, -3, -1}; !slices.Equal(got, want) {
		t.Errorf("transaction 2 matches %v, want %v", got, want)
	}
}

// P8.1, R4: a nil Index.
func TestNil(t *testing.T) {
	var x *match.Index
	for _, q := range []api.Query{{}, {Kind: api.QCount}} {
		if err := x.Add(1, q); err != api.ErrNil {
			t.Errorf("Add(1, %+v) = %d", q, err)
		}
	}
	if x.Remove(1) || x.Len() != 0 || len(x.Match(record(added(line(0, 1, 0, 0, 0))))) > 0 {
		t.Error("a nil Index has a query")
	}
}

// P8.1: a new Index has no queries, and shares none with another one.
func TestNew(t *testing.T) {
	a, b := match.New(), match.New()
	if a == nil || b == nil || a == b {
		t.Fatal("New does not return new Indexes")
	}
	mustAdd(t, a, 1, api.Query{Kind: api.QCount})
	c := added(line(0, 1, 0, 0, 0))
	q := api.Query{Kind: api.QCount, Low: 1, High: 1}
	mustAdd(t, a, 2, q)
	if b.Remove(1) || b.Remove(2) {
		t.Error("Remove of an Index without queries")
	}
	wantMatch(t, b, reference{}, record(c))
	wantMatch(t, b, reference{}, api.Record{})
	mustAdd(t, b, 1, q)
	wantMatch(t, a, reference{1: {Kind: api.QCount}, 2: q}, record(c))
	wantMatch(t, b, reference{1: q}, record(c))
	wantMatch(t, match.New(), reference{}, record(c))
}

// P8.1, R2: queries that are not valid, and numbers that are taken, are refused and change nothing.
func TestAddErrors(t *testing.T) {
	r := source(1)
	m := randomQueries(r, 40)
	x := indexOf(t, r, m)
	bad := append(randomInvalid(r, 700), api.Query{}, api.Query{Kind: 8}, api.Query{Kind: api.QRow}, api.Query{Kind: api.QCount, Low: 1}, api.Query{Kind: api.QJoin, By: 1, Other: 4}, api.Query{Kind: api.QSum})
	for i, q := range bad {
		if query.Valid(q) {
			t.Fatalf("%+v is valid", q)
		}
		for _, id := range []int{2000 + i, slices.Min(slices.Collect(maps.Keys(m)))} {
			if err := x.Add(id, q); err != api.ErrIndex {
				t.Fatalf("Add(%d, %+v) = %d", id, q, err)
			}
		}
		if x.Remove(2000 + i) {
			t.Fatalf("%+v was added", q)
		}
		wantMatch(t, x, m, wildRecord(r))
	}
	for _, id := range slices.Sorted(maps.Keys(m)) {
		for _, q := range []api.Query{m[id], randomQuery(r, 1+r.IntN(7)), {Kind: api.QJoin, By: 1}} {
			if err := x.Add(id, q); err != api.ErrIndex {
				t.Fatalf("Add(%d, %+v) = %d, although the number is taken", id, q, err)
			}
			wantMatch(t, x, m, wildRecord(r))
		}
	}
}

// P8.1: an Index is full with 500 queries, and has room again when one is removed.
func TestFull(t *testing.T) {
	r := source(2)
	m := randomQueries(r, 499)
	x := indexOf(t, r, m)
	q := api.Query{Kind: api.QRange, Table: 1, Column: 1, Low: -5, High: 5}
	for round := range 5 {
		id := 10000 + round
		if err := x.Add(id, q); err != m.add(id, q) || err != api.OK {
			t.Fatalf("Add of the query number 500 = %d", err)
		}
		for _, more := range []int{id, 20000, math.MinInt} {
			if err := x.Add(more, q); err != api.ErrIndex {
				t.Fatalf("Add(%d) to a full Index = %d", more, err)
			}
		}
		for range 50 {
			wantMatch(t, x, m, wildRecord(r))
		}
		gone := id
		if round%2 == 0 {
			gone = slices.Sorted(maps.Keys(m))[r.IntN(500)]
		}
		if x.Remove(20000) || !x.Remove(gone) || x.Remove(gone) || !m.remove(gone) {
			t.Fatalf("Remove(%d) of a full Index", gone)
		}
		wantMatch(t, x, m, wildRecord(r))
	}
}

// P8.1: the same query under many numbers, and many queries under the same number, one after the other.
func TestNumbers(t *testing.T) {
	r := source(3)
	x, m := match.New(), reference{}
	q := api.Query{Kind: api.QJoin, Table: 1, Column: 0, Low: 1, High: 6, By: 2, Other: 1}
	c := record(added(line(1, 3, 0, 0, 0)))
	for _, id := range []int{math.MaxInt, 0, math.MinInt, -1, 7, math.MinInt + 1} {
		mustAdd(t, x, id, q)
		m[id] = q
		wantMatch(t, x, m, c)
	}
	for _, id := range []int{0, math.MinInt, 7} {
		if !x.Remove(id) || x.Remove(id) {
			t.Errorf("Remove(%d)", id)
		}
		m.remove(id)
		wantMatch(t, x, m, c)
	}
	for i := range 700 {
		m[0] = randomQuery(r, 1+i%7)
		mustAdd(t, x, 0, m[0])
		for range 5 {
			wantMatch(t, x, m, wildRecord(r))
		}
		if !x.Remove(0) || !m.remove(0) {
			t.Fatal("Remove(0)")
		}
		wantMatch(t, x, m, wildRecord(r))
	}
}

// P8.1: long sequences of calls, with numbers that are often taken and often not there.
func TestSequences(t *testing.T) {
	r := source(4)
	bad := randomInvalid(r, 100)
	outcomes := map[api.Errno]int{}
	for range 40 {
		x, m := match.New(), reference{}
		for range 400 {
			id := pick(r, r.IntN(30)-15, r.IntN(30)-15, math.MaxInt, math.MinInt)
			switch r.IntN(4) {
			case 0, 1:
				q := randomQuery(r, 1+r.IntN(7))
				if r.IntN(8) == 0 {
					q = bad[r.IntN(len(bad))]
				}
				want := m.add(id, q)
				if err := x.Add(id, q); err != want {
					t.Fatalf("Add(%d, %+v) = %d, want %d", id, q, err, want)
				}
				outcomes[want]++
			case 2:
				want := m.remove(id)
				if got := x.Remove(id); got != want {
					t.Fatalf("Remove(%d) = %t", id, got)
				}
			default:
				wantMatch(t, x, m, wildRecord(r))
			}
			wantMatch(t, x, m, record(randomChange(r)))
		}
	}
	if min(outcomes[api.OK], outcomes[api.ErrIndex]) < 1000 {
		t.Errorf("the results of Add: %v", outcomes)
	}
}

// edges are the values at which ranges begin and end: at the bounds, and at and beside powers of two.
func edges() []int {
	list := []int{-1000000000, -999999999, 999999999, 1000000000, 1000000, 999999}
	for _, i := range []int{0, 1, 2, 3, 9, 10, 19, 20, 28, 29} {
		list = append(list, 1<<i-1, 1<<i, 1<<i+1, -1<<i-1, -1<<i, -1<<i+1)
	}
	slices.Sort(list)
	return slices.Compact(list)
}

// rowWith returns a row of the table 2 with a value in a column, or false if it would not be valid.
func rowWith(column, value int) (api.Row, bool) {
	if column == 0 {
		return line(2, value, 0, 0, 0), 1 <= value && value <= 1000000
	}
	x := line(2, 1, 0, 0, 0)
	x.V[column-1] = value
	return x, -1000000000 <= value && value <= 1000000000
}

// P8.1: each range from an edge to another one is matched from its first to its last value, and not by the values beside it.
func TestEdges(t *testing.T) {
	list := edges()
	for column := range 4 {
		for i, low := range list {
			x := match.New()
			for k, high := range list[i:] {
				mustAdd(t, x, k, api.Query{Kind: api.QRange, Table: 2, Column: column, Low: low, High: high})
			}
			for _, edge := range list {
				for value := edge - 1; value <= edge+1; value++ {
					c, ok := rowWith(column, value)
					if !ok {
						continue
					}
					var want []int
					for k, high := range list[i:] {
						if low <= value && value <= high {
							want = append(want, k)
						}
					}
					change := added(c)
					if value%2 == 0 {
						change = removed(c)
					}
					if got := x.Match(record(change)); !slices.Equal(got, want) {
						t.Fatalf("ranges of the column %d from %d on: %d is in %v, want %v", column, low, value, got, want)
					}
				}
			}
		}
	}
}

// P8.1: a join is matched by each change of the other table, whatever its key.
func TestOther(t *testing.T) {
	for table := range 4 {
		for other := range 4 {
			x := match.New()
			q := api.Query{Kind: api.QJoin, Table: table, Column: 1, Low: 5, High: 5, By: 3, Other: other}
			mustAdd(t, x, 1, q)
			for _, key := range []int{1, 2, 3, 1023, 1024, 1025, 524287, 524288, 524289, 777777, 999999, 1000000} {
				for k := range 4 {
					for _, c := range []api.Change{added(line(k, key, 4, 0, 0)), removed(line(k, key, 6, 0, 0)), changed(line(k, key, 4, 0, 0), 6, 0, 0)} {
						if got := len(x.Match(record(c))) == 1; got != (k == other) {
							t.Errorf("%+v matches %+v: %t", c, q, got)
						}
					}
				}
			}
			if !x.Remove(1) || len(x.Match(record(added(line(other, 7, 4, 0, 0))))) > 0 {
				t.Errorf("%+v is matched when it is removed", q)
			}
		}
	}
}
