package predicate_test

import (
	"math"
	"slices"
	"testing"

	"cachetier/api"
	"cachetier/predicate"
	"cachetier/query"
	"cachetier/row"
)

func line(table, key, a, b, c int) api.Row {
	return api.Row{Table: table, Key: key, V: [3]int{a, b, c}}
}

// The changes of a row; the last two have the place of the row which they change.

func added(x api.Row) api.Change {
	return api.Change{Table: x.Table, Key: x.Key, Has: true, New: x.V}
}

func removed(x api.Row) api.Change {
	return api.Change{Table: x.Table, Key: x.Key, Had: true, Old: x.V}
}

func changed(x api.Row, a, b, c int) api.Change {
	return api.Change{Table: x.Table, Key: x.Key, Had: true, Old: x.V, Has: true, New: [3]int{a, b, c}}
}

// wantPatch requires of Touches and Patch what is given.
func wantPatch(t *testing.T, q api.Query, r api.Result, c api.Change, touches bool, want api.Result, known bool) {
	t.Helper()
	if got := predicate.Touches(q, c); got != touches {
		t.Errorf("Touches(%+v, %+v) = %t", q, c, got)
	}
	if got, ok := predicate.Patch(q, r, c); ok != known || !equal(got, want) {
		t.Errorf("Patch(%+v, %v, %+v) = %v, %t; want %v, %t", q, r, c, got, ok, want, known)
	}
}

// P7.1: the chapter's examples.
func TestExamples(t *testing.T) {
	q := api.Query{Kind: api.QMin, Column: 1, Low: 10, High: 19, By: 2}
	seven := api.Result{Value: 7, Found: true}
	wantPatch(t, q, seven, added(line(0, 5, 12, 9, 0)), true, seven, true)
	wantPatch(t, q, seven, added(line(0, 5, 12, 3, 0)), true, api.Result{Value: 3, Found: true}, true)
	wantPatch(t, q, seven, added(line(0, 5, 25, 3, 0)), false, seven, true)
	wantPatch(t, q, seven, removed(line(0, 6, 12, 7, 0)), true, api.Result{}, false)
	wantPatch(t, q, seven, changed(line(0, 6, 12, 7, 0), 12, 5, 0), true, api.Result{Value: 5, Found: true}, true)
	wantPatch(t, q, seven, changed(line(0, 6, 12, 9, 1), 13, 9, 1), false, seven, true)
}

// P7.1: the examples of DOC.md: does transaction 2 touch these queries?
func TestTransaction(t *testing.T) {
	x := api.Record{Position: 2, Changes: []api.Change{added(line(0, 6, 11, 9, 7)), added(line(1, 2, 30, 31, 32))}}
	for line, want := range map[string]bool{
		"row 0 5":                 false,
		"row 0 6":                 true,
		"row 1 6":                 false,
		"row 1 2":                 true,
		"count 0 1 10 19":         true,
		"max 2 of 0 1 10 10":      false,
		"join 2 to 1 of 2 1 0 9":  true,
		"join 2 to 3 of 2 1 0 9":  false,
		"sum 1 of 1 0 2 2":        true,
		"sum 1 of 2 0 2 2":        false,
		"rows 1 3 32 32":          true,
		"rows 1 3 33 1000000000":  false,
		"min 3 of 0 0 1 1000000":  true,
		"min 3 of 3 0 1 1000000":  false,
		"rows 0 2 -1000000000 8":  false,
		"rows 0 2 -1000000000 9":  true,
		"rows 0 2 9 9":            true,
		"rows 0 2 10 10":          false,
		"count 1 2 31 31":         true,
		"count 1 2 32 1000000000": false,
	} {
		q, err := query.Parse(line)
		if err != api.OK {
			t.Fatalf("%s is no query", line)
		}
		if _, touched, _ := predicate.Apply(q, api.Result{}, x); touched != want {
			t.Errorf("transaction 2 touches %s: %t", line, touched)
		}
	}
}

// P7.1: a change that is not valid, or of a query that is not valid, touches nothing and changes nothing.
func TestInvalid(t *testing.T) {
	r := source(1)
	var bad []api.Change
	for len(bad) < 300 {
		if c := damage(r, randomChange(r)); !row.ValidChange(c) {
			bad = append(bad, c)
		}
	}
	bad = append(bad, api.Change{}, api.Change{Key: 1}, api.Change{Key: 1, Had: true, Has: true}, api.Change{Key: 1, Has: true, Old: [3]int{0, 0, 1}}, api.Change{Key: 1, Had: true, New: [3]int{1}}, api.Change{Has: true}, api.Change{Table: 4, Key: 1, Has: true})
	for kind := api.QRow; kind <= api.QJoin; kind++ {
		for _, c := range bad {
			q, before := randomQuery(r, kind), wildResult(r)
			q.Table = min(max(c.Table, 0), 3)
			if kind > api.QRow {
				q.Low, q.High = -1000000000, 1000000000
			}
			wantPatch(t, q, before, c, false, before, true)
			if got, touched, ok := predicate.Apply(q, before, api.Record{Position: 1, Changes: []api.Change{c, c}}); touched || !ok || !equal(got, before) {
				t.Errorf("Apply(%+v, %v) of %+v = %v, %t, %t", q, before, c, got, touched, ok)
			}
		}
	}
	for _, q := range append(randomInvalid(r, 700), api.Query{}) {
		for range 20 {
			c, before := randomChange(r), wildResult(r)
			wantPatch(t, q, before, c, false, before, true)
			if got, touched, ok := predicate.Apply(q, before, api.Record{Position: 1, Changes: []api.Change{c, c}}); touched || !ok || !equal(got, before) {
				t.Errorf("Apply(%+v, %v) of %+v = %v, %t, %t", q, before, c, got, touched, ok)
			}
		}
	}
}

// P7.1: the scan is that of the query's table and column, and has both bounds.
func TestScan(t *testing.T) {
	for kind := api.QRange; kind <= api.QJoin; kind++ {
		for at := range 4 {
			q := api.Query{Kind: kind, Table: 1, Column: at, Low: 3, High: 5}
			if kind >= api.QSum {
				q.By = 1 + at%3
			}
			if kind == api.QJoin {
				q.Other = 2
			}
			for value := 1; value <= 7; value++ {
				x := line(1, 9, 9, 9, 9)
				if at == 0 {
					x.Key = value
				} else {
					x.V[at-1] = value
				}
				inside := value >= 3 && value <= 5
				elsewhere := x
				elsewhere.Table = 0
				for _, c := range []struct {
					c    api.Change
					want bool
				}{{added(x), inside}, {removed(x), inside}, {added(elsewhere), false}, {removed(elsewhere), false}} {
					if got := predicate.Touches(q, c.c); got != c.want {
						t.Errorf("Touches(%+v, %+v) = %t", q, c.c, got)
					}
				}
			}
		}
	}
}

// P7.1: a QRow is touched by the changes of its row, and no others.
func TestRow(t *testing.T) {
	x, y := line(2, 5, 6, 7, 8), line(2, 5, 0, 0, 0)
	q := api.Query{Kind: api.QRow, Table: 2, Low: 5, High: 5}
	wantPatch(t, q, api.Result{}, added(x), true, api.Result{Rows: []api.Row{x}}, true)
	wantPatch(t, q, api.Result{Rows: []api.Row{x}}, changed(x, 0, 0, 0), true, api.Result{Rows: []api.Row{y}}, true)
	wantPatch(t, q, api.Result{Rows: []api.Row{x}}, removed(x), true, api.Result{}, true)
	for _, other := range []api.Row{line(1, 5, 6, 7, 8), line(2, 6, 5, 5, 5), line(2, 4, 5, 5, 5)} {
		wantPatch(t, q, api.Result{Rows: []api.Row{x}}, added(other), false, api.Result{Rows: []api.Row{x}}, true)
		wantPatch(t, q, api.Result{Rows: []api.Row{x}}, removed(other), false, api.Result{Rows: []api.Row{x}}, true)
	}
}

// P7.1: the place of a row is found among rows with the same value and with other ones, in order or not; rows with its table and key go, wherever and as often as they are there.
func TestRangePlaces(t *testing.T) {
	q := api.Query{Kind: api.QRange, Column: 2, Low: 0, High: 9}
	a, b, c, d := line(0, 5, 0, 3, 0), line(0, 8, 0, 3, 0), line(0, 2, 0, 6, 0), line(0, 6, 0, 6, 0)
	list := []api.Row{a, b, c, d}
	for _, x := range []struct {
		rows  []api.Row
		added api.Row
		place int
	}{
		{nil, a, 0},
		{list, line(0, 9, 0, 2, 0), 0},
		{list, line(0, 4, 0, 3, 0), 0},
		{list, line(0, 7, 0, 3, 0), 1},
		{list, line(0, 9, 0, 3, 0), 2},
		{list, line(0, 1, 0, 4, 0), 2},
		{list, line(0, 1, 0, 6, 0), 2},
		{list, line(0, 3, 0, 6, 0), 3},
		{list, line(0, 7, 0, 6, 0), 4},
		{list, line(0, 1, 0, 9, 0), 4},
		{list, line(0, 1, 0, 0, 0), 0},
		{[]api.Row{c, a, d, b}, line(0, 7, 0, 3, 0), 0},
		{[]api.Row{a, c, b, d}, line(0, 7, 0, 3, 0), 1},
		{[]api.Row{a, a, a}, line(0, 4, 0, 4, 0), 3},
		{[]api.Row{line(0, 5, 0, 3, 9)}, line(0, 5, 0, 3, 0), 0}, // this row is replaced
		{[]api.Row{line(3, 5, 0, 3, 9)}, line(0, 5, 0, 3, 0), 1}, // this one has another table
	} {
		kept := slices.DeleteFunc(slices.Clone(x.rows), func(y api.Row) bool { return y.Table == x.added.Table && y.Key == x.added.Key })
		want := slices.Insert(kept, x.place, x.added)
		wantPatch(t, q, api.Result{Rows: x.rows}, added(x.added), true, api.Result{Rows: want}, true)
	}
	for _, x := range []struct {
		c    api.Change
		want []api.Row
	}{
		{changed(b, 0, 3, 1), []api.Row{a, a, line(0, 8, 0, 3, 1), c}},
		{changed(b, 0, 7, 0), []api.Row{a, a, c, line(0, 8, 0, 7, 0)}},
		{changed(b, 0, 10, 0), []api.Row{a, a, c}},
		{changed(line(0, 8, 0, 10, 0), 0, 2, 0), []api.Row{line(0, 8, 0, 2, 0), a, a, c}},
		{removed(a), []api.Row{b, c, b}},
		{removed(b), []api.Row{a, a, c}},
		{removed(d), []api.Row{a, b, a, c, b}},
	} {
		wantPatch(t, q, api.Result{Rows: []api.Row{a, b, a, c, b}}, x.c, true, api.Result{Rows: x.want}, true)
	}
}

// P7.1, R6: counts and sums, also beyond 64 bits.
func TestCountsAndSums(t *testing.T) {
	q := api.Query{Kind: api.QCount, Column: 1, Low: 0, High: 9}
	in, out := line(0, 5, 5, 6, 0), line(0, 5, 10, 6, 0)
	for _, x := range []struct {
		c       api.Change
		touches bool
		more    int
	}{
		{added(in), true, 1}, {removed(in), true, -1}, {changed(in, 10, 6, 0), true, -1}, {changed(out, 9, 6, 0), true, 1},
		{changed(in, 6, 7, 8), false, 0}, {changed(out, 11, 6, 0), false, 0}, {added(out), false, 0}, {removed(out), false, 0},
	} {
		for _, value := range []int{0, 5, -5, 2000, math.MaxInt, math.MinInt} {
			wantPatch(t, q, api.Result{Value: value}, x.c, x.touches, api.Result{Value: value + x.more}, true)
		}
	}
	q = api.Query{Kind: api.QSum, Column: 1, Low: 0, High: 9, By: 2}
	for _, x := range []struct {
		c       api.Change
		touches bool
		more    int
	}{
		{added(in), true, 6}, {removed(in), true, -6}, {changed(in, 10, 8, 0), true, -6}, {changed(out, 9, 8, 0), true, 8},
		{changed(in, 6, 7, 8), true, 1}, {changed(in, 6, -7, 8), true, -13}, {changed(in, 6, 6, 8), false, 0}, {changed(in, 5, 0, 0), true, -6},
		{changed(out, 11, 7, 0), false, 0}, {added(out), false, 0}, {removed(out), false, 0},
		{added(line(0, 5, 5, 0, 1)), false, 0}, {removed(line(0, 5, 5, 0, 1)), false, 0}, {changed(line(0, 5, 5, 0, 1), 10, 7, 0), false, 0}, {changed(line(0, 5, 10, 7, 0), 5, 0, 0), false, 0},
		{added(line(0, 5, 5, 1000000000, 0)), true, 1000000000}, {changed(line(0, 5, 5, 1000000000, 0), 5, -1000000000, 0), true, -2000000000},
	} {
		for _, value := range []int{0, 100, -5, math.MaxInt, math.MinInt} {
			wantPatch(t, q, api.Result{Value: value}, x.c, x.touches, api.Result{Value: value + x.more}, true)
		}
	}
}

// sides returns changes of a row for all combinations of no row, a row that is not in the scan of the columns 1 from 0 to 9, and rows that are, with measures in the column 2.
func sides(measures []int) []api.Change {
	var rows []*[3]int
	for _, m := range measures {
		rows = append(rows, &[3]int{5, m, 0})
	}
	rows = append(rows, nil, &[3]int{10, 0, 0}, &[3]int{-1, measures[0], 1})
	var out []api.Change
	for _, old := range rows {
		for _, now := range rows {
			c := api.Change{Key: 5, Had: old != nil, Has: now != nil}
			if old != nil {
				c.Old = *old
			}
			if now != nil {
				c.New = *now
			}
			if old == now && old != nil {
				c.New[2] = 7
			}
			if old != nil || now != nil {
				out = append(out, c)
			}
		}
	}
	return out
}

// P7.1: all combinations of what is there before and after, and of what is known.
func TestAllSides(t *testing.T) {
	list := []int{-2, -1, 0, 1, 2}
	for kind := api.QRange; kind <= api.QJoin; kind++ {
		q := api.Query{Kind: kind, Column: 1, Low: 0, High: 9}
		if kind >= api.QSum {
			q.By = 2
		}
		if kind == api.QJoin {
			q.Other = 1
		}
		for _, c := range sides(list) {
			if !row.ValidChange(c) {
				t.Fatalf("%+v is not valid", c)
			}
			for _, value := range append(list, math.MinInt, math.MaxInt) {
				for _, found := range []bool{false, true} {
					for _, rows := range [][]api.Row{nil, {line(0, 5, 5, 1, 0)}, {line(0, 4, 5, 1, 0), line(1, 1, 1, 1, 1), line(0, 5, 5, 2, 0), line(1, 2, 2, 2, 2), line(0, 6, 5, 1, 0)}} {
						before := api.Result{Rows: rows, Value: value, Found: found}
						want, known := refPatch(q, before, c)
						wantPatch(t, q, before, c, refTouches(q, c), want, known)
					}
				}
			}
		}
	}
}

// P7.1: least and greatest measures; what was not found can be found, but not lost.
func TestExtremes(t *testing.T) {
	none, seven := api.Result{}, api.Result{Value: 7, Found: true}
	found := func(value int) api.Result { return api.Result{Value: value, Found: true} }
	for _, x := range []struct {
		kind    int
		before  api.Result
		c       api.Change
		touches bool
		want    api.Result
		known   bool
	}{
		{api.QMin, none, added(line(0, 5, 5, 9, 0)), true, found(9), true},
		{api.QMin, none, added(line(0, 5, 5, -9, 0)), true, found(-9), true},
		{api.QMin, none, added(line(0, 5, 5, 0, 0)), true, found(0), true},
		{api.QMin, none, removed(line(0, 5, 5, 9, 0)), true, none, false},
		{api.QMin, none, changed(line(0, 5, 5, 9, 0), 5, 0, 0), true, none, false},
		{api.QMin, none, changed(line(0, 5, 10, 9, 0), 5, 9, 0), true, found(9), true},
		{api.QMin, seven, removed(line(0, 5, 5, 8, 0)), true, seven, true},
		{api.QMin, seven, removed(line(0, 5, 5, 7, 0)), true, none, false},
		{api.QMin, seven, removed(line(0, 5, 5, 6, 0)), true, none, false},
		{api.QMin, seven, changed(line(0, 5, 5, 7, 0), 5, 8, 0), true, none, false},
		{api.QMin, seven, changed(line(0, 5, 5, 7, 0), 10, 5, 0), true, none, false},
		{api.QMin, seven, changed(line(0, 5, 5, 6, 0), 5, 7, 0), true, seven, true},
		{api.QMin, seven, changed(line(0, 5, 5, 6, 0), 5, 5, 0), true, found(5), true},
		{api.QMin, seven, changed(line(0, 5, 5, 8, 0), 5, 7, 0), true, seven, true},
		{api.QMin, seven, changed(line(0, 5, 5, 8, 0), 5, 6, 0), true, found(6), true},
		{api.QMin, seven, changed(line(0, 5, 5, 8, 0), 5, 9, 0), true, seven, true},
		{api.QMin, seven, changed(line(0, 5, 5, 7, 0), 6, 7, 1), false, seven, true},
		{api.QMax, none, added(line(0, 5, 5, -4, 0)), true, found(-4), true},
		{api.QMax, none, removed(line(0, 5, 5, 9, 0)), true, none, false},
		{api.QMax, seven, added(line(0, 5, 5, 8, 0)), true, found(8), true},
		{api.QMax, seven, added(line(0, 5, 5, 6, 0)), true, seven, true},
		{api.QMax, seven, removed(line(0, 5, 5, 6, 0)), true, seven, true},
		{api.QMax, seven, removed(line(0, 5, 5, 7, 0)), true, none, false},
		{api.QMax, seven, removed(line(0, 5, 5, 8, 0)), true, none, false},
		{api.QMax, seven, changed(line(0, 5, 5, 7, 0), 5, 6, 0), true, none, false},
		{api.QMax, seven, changed(line(0, 5, 5, 7, 0), 10, 9, 0), true, none, false},
		{api.QMax, seven, changed(line(0, 5, 5, 8, 0), 5, 7, 0), true, seven, true},
		{api.QMax, seven, changed(line(0, 5, 5, 8, 0), 5, 9, 0), true, found(9), true},
		{api.QMax, seven, changed(line(0, 5, 5, 6, 0), 5, 8, 0), true, found(8), true},
		{api.QMax, seven, changed(line(0, 5, 5, 6, 0), 5, 5, 0), true, seven, true},
		{api.QMax, seven, changed(line(0, 5, 5, 7, 0), 6, 7, 1), false, seven, true},
		{api.QMin, found(math.MaxInt), added(line(0, 5, 5, 1, 0)), true, found(1), true},
		{api.QMin, found(math.MinInt), removed(line(0, 5, 5, 1, 0)), true, found(math.MinInt), true},
		{api.QMax, found(math.MinInt), added(line(0, 5, 5, 1, 0)), true, found(1), true},
		{api.QMax, found(math.MaxInt), removed(line(0, 5, 5, 1, 0)), true, found(math.MaxInt), true},
		{api.QMax, found(math.MinInt), removed(line(0, 5, 5, 1, 0)), true, none, false},
		{api.QMin, api.Result{Value: 3}, added(line(0, 5, 5, 9, 0)), true, found(9), true},
		{api.QMax, api.Result{Value: 13}, added(line(0, 5, 5, 9, 0)), true, found(9), true},
	} {
		q := api.Query{Kind: x.kind, Column: 1, Low: 0, High: 9, By: 2}
		wantPatch(t, q, x.before, x.c, x.touches, x.want, x.known)
	}
}

// P7.1: a change of the other table replaces or removes the right rows of all pairs that have it; a new row may be the partner of any row.
func TestJoinRight(t *testing.T) {
	q := api.Query{Kind: api.QJoin, Column: 1, Low: 0, High: 9, By: 2, Other: 1}
	a, b, c := line(0, 4, 1, 1, 0), line(0, 2, 5, 2, 0), line(0, 7, 5, 1, 0)
	one, two, next := line(1, 1, 7, 0, 0), line(1, 2, 8, 0, 0), line(1, 1, 9, 9, 9)
	before := api.Result{Rows: []api.Row{a, one, b, two, c, one}}
	wantPatch(t, q, before, removed(one), true, api.Result{Rows: []api.Row{b, two}}, true)
	wantPatch(t, q, before, removed(two), true, api.Result{Rows: []api.Row{a, one, c, one}}, true)
	wantPatch(t, q, before, changed(one, 9, 9, 9), true, api.Result{Rows: []api.Row{a, next, b, two, c, next}}, true)
	wantPatch(t, q, before, removed(line(1, 3, 0, 0, 0)), true, before, true)
	wantPatch(t, q, before, changed(line(1, 4, 0, 0, 0), 1, 1, 1), true, before, true) // a left row has this key
	wantPatch(t, q, before, added(line(1, 3, 0, 0, 0)), true, api.Result{}, false)
	wantPatch(t, q, before, added(one), true, api.Result{}, false)
	wantPatch(t, q, api.Result{}, added(line(1, 3, 0, 0, 0)), true, api.Result{}, false)
	wantPatch(t, q, api.Result{}, removed(one), true, api.Result{}, true)
	wantPatch(t, q, before, added(line(2, 1, 1, 1, 1)), false, before, true)
	wantPatch(t, q, before, removed(line(2, 1, 1, 1, 1)), false, before, true)
}

// P7.1: a change of the scan's table; the partner is known from the pairs as they are before the change.
func TestJoinLeft(t *testing.T) {
	q := api.Query{Kind: api.QJoin, Column: 1, Low: 0, High: 9, By: 2, Other: 1}
	a, b, c := line(0, 4, 1, 1, 0), line(0, 2, 5, 2, 0), line(0, 7, 5, 1, 0)
	one, two, first := line(1, 1, 7, 0, 0), line(1, 2, 8, 0, 0), line(1, 1, 0, 0, 0)
	before := api.Result{Rows: []api.Row{a, one, b, two, c, one}}
	x := line(0, 3, 5, 1, 0)
	wantPatch(t, q, before, added(x), true, api.Result{Rows: []api.Row{a, one, b, two, x, one, c, one}}, true)
	wantPatch(t, q, before, added(line(0, 3, 10, 1, 0)), false, before, true)
	wantPatch(t, q, before, added(line(0, 3, 5, 3, 0)), true, api.Result{}, false)
	wantPatch(t, q, before, added(line(0, 3, 5, 4, 0)), true, api.Result{}, false) // the key of a left row
	wantPatch(t, q, before, removed(a), true, api.Result{Rows: []api.Row{b, two, c, one}}, true)
	wantPatch(t, q, before, removed(line(0, 1, 5, 6, 0)), true, before, true) // the key of a right row
	wantPatch(t, q, before, changed(a, 10, 1, 0), true, api.Result{Rows: []api.Row{b, two, c, one}}, true)
	wantPatch(t, q, before, changed(a, 10, 5, 0), true, api.Result{Rows: []api.Row{b, two, c, one}}, true)
	wantPatch(t, q, before, changed(b, 0, 2, 9), true, api.Result{Rows: []api.Row{line(0, 2, 0, 2, 9), two, a, one, c, one}}, true)
	wantPatch(t, q, before, changed(b, 9, 1, 9), true, api.Result{Rows: []api.Row{a, one, c, one, line(0, 2, 9, 1, 9), one}}, true)
	wantPatch(t, q, before, changed(a, 1, 3, 0), true, api.Result{}, false)
	wantPatch(t, q, before, changed(line(0, 9, 5, 6, 0), 6, 6, 1), true, before, true)
	wantPatch(t, q, before, changed(line(0, 9, 5, 6, 0), 6, 5, 1), true, api.Result{}, false)
	wantPatch(t, q, before, changed(line(0, 9, 10, 6, 0), 6, 6, 0), true, api.Result{}, false)
	wantPatch(t, q, before, changed(a, 1, 3, 5), true, api.Result{}, false)
	wantPatch(t, q, api.Result{Rows: []api.Row{a, first, b, one}}, added(x), true, api.Result{Rows: []api.Row{a, first, b, one, x, first}}, true)
	wantPatch(t, q, api.Result{Rows: []api.Row{a, two}}, changed(a, 1, 1, 3), true, api.Result{}, true) // the same measure, of which no pair is
	wantPatch(t, q, api.Result{}, added(x), true, api.Result{}, false)
	wantPatch(t, q, api.Result{}, removed(x), true, api.Result{}, true)
	wantPatch(t, q, api.Result{}, added(line(0, 3, 5, 0, 0)), true, api.Result{}, false)
}

// P7.1: a single row at the end is no pair, and goes if the join is touched.
func TestJoinSingle(t *testing.T) {
	q := api.Query{Kind: api.QJoin, Column: 1, Low: 0, High: 9, By: 2, Other: 1}
	a, b, one, two := line(0, 4, 1, 1, 0), line(0, 2, 5, 2, 0), line(1, 1, 7, 0, 0), line(1, 2, 8, 0, 0)
	for _, single := range []api.Row{a, b, one, two} {
		before := api.Result{Rows: []api.Row{a, one, single}, Value: 4, Found: true}
		pairs := api.Result{Rows: []api.Row{a, one}, Value: 4, Found: true}
		wantPatch(t, q, before, removed(line(0, 9, 5, 5, 0)), true, pairs, true)
		wantPatch(t, q, before, removed(line(1, 9, 5, 5, 0)), true, pairs, true)
		wantPatch(t, q, before, changed(line(1, 9, 5, 5, 0), 1, 1, 1), true, pairs, true)
		wantPatch(t, q, before, changed(line(0, 9, 5, 5, 0), 1, 5, 1), true, pairs, true)
		wantPatch(t, q, before, added(line(0, 9, 5, 2, 0)), true, api.Result{}, false)
		wantPatch(t, q, before, added(line(0, 3, 0, 1, 0)), true, api.Result{Rows: []api.Row{line(0, 3, 0, 1, 0), one, a, one}, Value: 4, Found: true}, true)
		wantPatch(t, q, before, added(line(0, 9, 10, 5, 0)), false, before, true)
		wantPatch(t, q, before, added(line(2, 9, 5, 5, 0)), false, before, true)
	}
	wantPatch(t, q, api.Result{Rows: []api.Row{a}}, removed(b), true, api.Result{}, true)
	wantPatch(t, q, api.Result{Rows: []api.Row{a}}, removed(line(0, 9, 99, 99, 99)), false, api.Result{Rows: []api.Row{a}}, true)
}

// P7.1: a join of a table with itself is unknown after each change of the table, and after no other one.
func TestJoinSelf(t *testing.T) {
	q := api.Query{Kind: api.QJoin, Table: 1, Column: 1, Low: 0, High: 9, By: 2, Other: 1}
	a, one := line(1, 4, 1, 1, 0), line(1, 1, 7, 0, 0)
	before := api.Result{Rows: []api.Row{a, one}}
	for _, c := range []api.Change{removed(a), removed(one), added(line(1, 9, 99, 9, 9)), changed(a, 1, 1, 5), changed(one, 10, 1, 5)} {
		wantPatch(t, q, before, c, true, api.Result{}, false)
	}
	wantPatch(t, q, before, removed(line(0, 4, 1, 1, 0)), false, before, true)
}

// P7.1: what a kind's change is not said to affect stays as it is, also in results that no such query has.
func TestOtherFields(t *testing.T) {
	x := line(0, 5, 5, 6, 7)
	rows := []api.Row{line(0, 4, 1, 1, 0), line(1, 6, 7, 0, 0), line(2, 2, 2, 2, 2)}
	all := api.Result{Rows: rows, Value: 9, Found: true}
	q := func(kind, by, other int) api.Query {
		return api.Query{Kind: kind, Column: 1, Low: 0, High: 9, By: by, Other: other}
	}
	wantPatch(t, q(api.QCount, 0, 0), all, added(x), true, api.Result{Rows: rows, Value: 10, Found: true}, true)
	wantPatch(t, q(api.QSum, 2, 0), all, added(x), true, api.Result{Rows: rows, Value: 15, Found: true}, true)
	wantPatch(t, q(api.QMin, 2, 0), all, added(x), true, api.Result{Rows: rows, Value: 6, Found: true}, true)
	wantPatch(t, q(api.QMax, 2, 0), all, added(x), true, all, true)
	wantPatch(t, q(api.QRange, 0, 0), all, added(x), true, api.Result{Rows: []api.Row{rows[0], x, rows[1], rows[2]}, Value: 9, Found: true}, true)
	wantPatch(t, q(api.QJoin, 2, 1), all, added(x), true, api.Result{Rows: []api.Row{rows[0], rows[1], x, rows[1]}, Value: 9, Found: true}, true)
}
