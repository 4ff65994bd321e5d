package eval_test

import (
	"math"
	"slices"
	"testing"

	"cachetier/api"
	"cachetier/eval"
	"cachetier/query"
	"cachetier/store"
)

func line(table, key, a, b, c int) api.Row {
	return api.Row{Table: table, Key: key, V: [3]int{a, b, c}}
}

// The rows of the chapter's examples.
func exampleRows() []api.Row {
	return []api.Row{line(0, 5, 10, 2, 7), line(0, 6, 10, 9, 7), line(0, 7, 12, 1, 8), line(1, 2, 30, 31, 32), line(1, 9, 40, 41, 42)}
}

// P6.1: the chapter's examples.
func TestExamples(t *testing.T) {
	l := exampleRows()
	s := stateOf(t, l)
	for _, x := range []struct {
		q    api.Query
		want api.Result
	}{
		{api.Query{Kind: api.QRow, Low: 6, High: 6}, api.Result{Rows: l[1:2]}},
		{api.Query{Kind: api.QRow, Low: 8, High: 8}, api.Result{}},
		{api.Query{Kind: api.QRange, Column: 1, Low: 10, High: 11}, api.Result{Rows: l[:2]}},
		{api.Query{Kind: api.QCount, Column: 1, Low: 10, High: 11}, api.Result{Value: 2}},
		{api.Query{Kind: api.QSum, Column: 1, Low: 10, High: 11, By: 2}, api.Result{Value: 11}},
		{api.Query{Kind: api.QMin, Column: 1, Low: 10, High: 11, By: 2}, api.Result{Value: 2, Found: true}},
		{api.Query{Kind: api.QMax, Column: 1, Low: 10, High: 11, By: 2}, api.Result{Value: 9, Found: true}},
		{api.Query{Kind: api.QMin, Column: 1, Low: 90, High: 99, By: 2}, api.Result{}},
		{api.Query{Kind: api.QJoin, Column: 1, Low: 10, High: 12, By: 2, Other: 1}, api.Result{Rows: []api.Row{l[0], l[3], l[1], l[4]}}},
	} {
		if got := of(t, s, x.q); !equal(got, x.want) {
			t.Errorf("Of(%+v) = %v; want %v", x.q, got, x.want)
		}
	}
}

// P6.1: results are equal exactly if they are equal in every field of every row, in the same order.
func TestSame(t *testing.T) {
	a, b := line(1, 2, 3, 4, 5), line(1, 3, 3, 4, 5)
	list := []api.Result{
		{}, {Value: 1}, {Value: -1}, {Value: math.MinInt}, {Value: math.MaxInt}, {Found: true}, {Value: 1, Found: true},
		{Rows: []api.Row{{}}}, {Rows: []api.Row{{}, {}}},
		{Rows: []api.Row{a}}, {Rows: []api.Row{b}}, {Rows: []api.Row{a, b}}, {Rows: []api.Row{b, a}}, {Rows: []api.Row{a, a}}, {Rows: []api.Row{b, b}}, {Rows: []api.Row{a, b, a}},
		{Rows: []api.Row{a}, Value: 1}, {Rows: []api.Row{a}, Found: true}, {Rows: []api.Row{a}, Value: 1, Found: true},
		{Rows: []api.Row{line(2, 2, 3, 4, 5)}}, {Rows: []api.Row{line(1, 2, 4, 4, 5)}}, {Rows: []api.Row{line(1, 2, 3, 5, 5)}}, {Rows: []api.Row{line(1, 2, 3, 4, 6)}},
		{Rows: []api.Row{a, line(1, 3, 3, 4, 6)}},
	}
	for i, x := range list {
		for k, y := range list {
			y.Rows = append(make([]api.Row, 0, 9), y.Rows...)
			if eval.Same(x, y) != (i == k) || eval.Same(y, x) != (i == k) {
				t.Errorf("Same(%v, %v) is not %t", x, y, i == k)
			}
		}
	}
}

// P6.1
func TestSize(t *testing.T) {
	for _, r := range []api.Result{{}, {Value: 7, Found: true}, {Rows: []api.Row{}}, {Rows: make([]api.Row, 0, 5)}} {
		if got := eval.Size(r); got != 1 {
			t.Errorf("Size(%v) = %d", r, got)
		}
	}
	for _, n := range []int{1, 2, 3, 2000, 4000} {
		if got := eval.Size(api.Result{Rows: make([]api.Row, n, n+9), Value: 5, Found: true}); got != n+1 {
			t.Errorf("Size of %d rows = %d", n, got)
		}
	}
}

// P6.1: rows of any kind, in any order, most of which are not of the scan.
func TestFromReference(t *testing.T) {
	r := source(1)
	for i := range 20000 {
		q := randomQuery(r, 1+i%7)
		rows, others := wildRows(r, r.IntN(9)), wildRows(r, r.IntN(30))
		if r.IntN(2) == 0 {
			others = append(others, randomRows(r, 20)...)
		}
		if got, want := eval.From(q, rows, others), refFrom(q, rows, others); !equal(got, want) {
			t.Fatalf("From(%+v, %v, %v) = %v; want %v", q, rows, others, got, want)
		}
	}
}

// P6.1: no rows, and no other rows.
func TestFromNothing(t *testing.T) {
	r := source(2)
	l := exampleRows()
	for kind := api.QRow; kind <= api.QJoin; kind++ {
		q := randomQuery(r, kind)
		for _, rows := range [][]api.Row{nil, {}, l[:0]} {
			for _, others := range [][]api.Row{nil, {}, l} {
				if got := eval.From(q, rows, others); !equal(got, api.Result{}) {
					t.Errorf("From(%+v) of no rows = %v", q, got)
				}
			}
		}
	}
	q := api.Query{Kind: api.QJoin, High: 10, By: 2, Other: 1}
	if got := eval.From(q, l, nil); !equal(got, api.Result{}) {
		t.Errorf("pairs without other rows: %v", got)
	}
}

// P6.1: measures at the bounds of integers; a sum wraps around.
func TestFromExtremes(t *testing.T) {
	for _, x := range []struct {
		kind     int
		measures []int
		want     api.Result
	}{
		{api.QSum, []int{math.MaxInt, 1}, api.Result{Value: math.MinInt}},
		{api.QSum, []int{math.MinInt, -1}, api.Result{Value: math.MaxInt}},
		{api.QSum, []int{math.MinInt, math.MinInt}, api.Result{}},
		{api.QSum, []int{math.MaxInt, math.MaxInt, 5}, api.Result{Value: 3}},
		{api.QSum, []int{5, -5}, api.Result{}},
		{api.QMin, []int{math.MaxInt}, api.Result{Value: math.MaxInt, Found: true}},
		{api.QMin, []int{math.MaxInt, math.MinInt, 0}, api.Result{Value: math.MinInt, Found: true}},
		{api.QMin, []int{3, 2, 4}, api.Result{Value: 2, Found: true}},
		{api.QMin, []int{0, 3}, api.Result{Found: true}},
		{api.QMin, []int{-3, -3}, api.Result{Value: -3, Found: true}},
		{api.QMax, []int{math.MinInt}, api.Result{Value: math.MinInt, Found: true}},
		{api.QMax, []int{math.MinInt, math.MaxInt, 0}, api.Result{Value: math.MaxInt, Found: true}},
		{api.QMax, []int{-3, -2, -4}, api.Result{Value: -2, Found: true}},
		{api.QMax, []int{-3, 0}, api.Result{Found: true}},
		{api.QCount, []int{math.MaxInt, math.MaxInt, math.MinInt}, api.Result{Value: 3}},
	} {
		for by := 1; by <= 3; by++ {
			q := api.Query{Kind: x.kind, Table: 2, Column: 1, Low: -1, High: 1, By: by}
			if x.kind == api.QCount {
				q.By = 0
			}
			var rows []api.Row
			for _, m := range x.measures {
				r := line(2, 7, 77, 77, 77)
				r.V[by-1] = m
				rows = append(rows, r)
			}
			if got := eval.From(q, rows, rows); !equal(got, x.want) {
				t.Errorf("From(%+v) of the measures %v = %v; want %v", q, x.measures, got, x.want)
			}
		}
	}
}

// P6.1: the rows are taken in their order, and as often as they are there; of several other rows the first one counts.
func TestFromAsGiven(t *testing.T) {
	rows := []api.Row{line(3, 9, 1, 5, 4), line(0, 1, 7, 5, 2), line(3, 9, 1, 5, 4), line(0, 1, 8, 6, 0), line(0, 0, 0, 0, 0), line(0, 2, 0, 7, 0)}
	others := []api.Row{line(2, 5, 0, 0, 0), line(1, 5, 1, 1, 1), line(2, 6, 9, 9, 9), line(1, 5, 2, 2, 2), line(1, 6, 3, 3, 3), line(1, 0, -1, 0, 0), line(1, 6, 0, 0, 0), line(0, 7, 7, 7, 7)}
	for _, kind := range []int{api.QRow, api.QRange} {
		if got := eval.From(api.Query{Kind: kind, Low: 1, High: 1}, rows, others); !equal(got, api.Result{Rows: rows}) {
			t.Errorf("the rows of the kind %d are %v", kind, got)
		}
	}
	want := []api.Row{rows[0], others[1], rows[1], others[1], rows[2], others[1], rows[3], others[4], rows[4], others[5]}
	q := api.Query{Kind: api.QJoin, Low: 0, High: 1, By: 2, Other: 1}
	if got := eval.From(q, rows, others); !equal(got, api.Result{Rows: want}) {
		t.Errorf("the pairs are %v; want %v", got, want)
	}
}

// P6.1, R2: queries that are not valid.
func TestInvalid(t *testing.T) {
	l := exampleRows()
	s := stateOf(t, l)
	for _, q := range invalid() {
		if query.Valid(q) {
			t.Fatalf("%+v is valid", q)
		}
		if got := eval.From(q, l, l); !equal(got, api.Result{}) {
			t.Errorf("From(%+v) = %v", q, got)
		}
		for _, state := range []*store.State{s, store.New()} {
			if got, err := eval.Of(state, q); err != api.ErrQuery || !equal(got, api.Result{}) {
				t.Errorf("Of(%+v) = %v, %d", q, got, err)
			}
		}
	}
}

// P6.1, R4: a nil state comes before a query that is not valid.
func TestNil(t *testing.T) {
	r := source(3)
	list := invalid()
	for kind := api.QRow; kind <= api.QJoin; kind++ {
		list = append(list, randomQuery(r, kind))
	}
	for _, q := range list {
		if got, err := eval.Of(nil, q); err != api.ErrNil || !equal(got, api.Result{}) {
			t.Errorf("Of(nil, %+v) = %v, %d", q, got, err)
		}
	}
}

// P6.1: queries of all kinds on states of all sizes.
func TestOfReference(t *testing.T) {
	r := source(4)
	found := map[int]int{}
	for i := range 400 {
		rows := randomRows(r, i%60)
		s := stateOf(t, rows)
		for k := range 70 {
			q := randomQuery(r, 1+k%7)
			got, want := of(t, s, q), refOf(q, rows)
			if !equal(got, want) {
				t.Fatalf("Of(%+v) on %v = %v; want %v", q, rows, got, want)
			}
			if !equal(got, api.Result{}) {
				found[q.Kind]++
			}
		}
	}
	for kind := api.QRow; kind <= api.QJoin; kind++ {
		if found[kind] < 400 {
			t.Errorf("only %d results of the kind %d are not zero", found[kind], kind)
		}
	}
}

// P6.1: an empty state, and one with as many rows as there may be.
func TestOfSizes(t *testing.T) {
	r := source(5)
	var rows []api.Row
	for i := range 2000 {
		rows = append(rows, line(i%2, 1+i, (i*7919)%2000-1000, 1+(i*31)%3000, i%10))
	}
	full := stateOf(t, rows)
	for range 6 {
		for kind := api.QRow; kind <= api.QJoin; kind++ {
			q := randomQuery(r, kind)
			if got := of(t, store.New(), q); !equal(got, api.Result{}) {
				t.Errorf("Of(%+v) on no rows = %v", q, got)
			}
			q.Table %= 2
			if kind > api.QRow {
				q.Low, q.High = -1000000000, 1000000000
			}
			if got, want := of(t, full, q), refOf(q, rows); !equal(got, want) {
				t.Errorf("Of(%+v) on 2000 rows has %d rows, %d, %t", q, len(got.Rows), got.Value, got.Found)
			}
		}
	}
}

// ofKind returns q as a query of another kind with the same range.
func ofKind(q api.Query, kind, by, other int) api.Query {
	out := api.Query{Kind: kind, Table: q.Table, Column: q.Column, Low: q.Low, High: q.High}
	if kind >= api.QSum {
		out.By = by
	}
	if kind == api.QJoin {
		out.Other = other
	}
	return out
}

// P6.2
func TestKindsBelongTogether(t *testing.T) {
	r := source(6)
	for i := range 300 {
		s := stateOf(t, randomRows(r, i%50))
		for range 20 {
			q := randomQuery(r, api.QRange)
			by, other := 1+r.IntN(3), r.IntN(4)
			rows := of(t, s, q).Rows
			least, greatest, sum := math.MaxInt, math.MinInt, 0
			for _, x := range rows {
				v := x.V[by-1]
				least, greatest, sum = min(least, v), max(greatest, v), sum+v
			}
			there := len(rows) > 0
			if !there {
				least, greatest = 0, 0
			}
			for _, x := range []struct {
				kind int
				want api.Result
			}{
				{api.QCount, api.Result{Value: len(rows)}},
				{api.QSum, api.Result{Value: sum}},
				{api.QMin, api.Result{Value: least, Found: there}},
				{api.QMax, api.Result{Value: greatest, Found: there}},
			} {
				if got := of(t, s, ofKind(q, x.kind, by, other)); !equal(got, x.want) {
					t.Fatalf("the kind %d for the range of %+v is %v; want %v", x.kind, q, got, x.want)
				}
			}
			if pairs := of(t, s, ofKind(q, api.QJoin, by, other)).Rows; len(pairs) > 2*len(rows) || len(pairs)%2 != 0 {
				t.Fatalf("%d rows in pairs from %d rows", len(pairs), len(rows))
			}
		}
	}
}

// joined returns what the results of two parts of the range of q are together.
func joined(q api.Query, a, b api.Result) api.Result {
	switch {
	case q.Kind == api.QMin && a.Found && b.Found:
		return api.Result{Value: min(a.Value, b.Value), Found: true}
	case q.Kind == api.QMax && a.Found && b.Found:
		return api.Result{Value: max(a.Value, b.Value), Found: true}
	}
	return api.Result{Rows: slices.Concat(a.Rows, b.Rows), Value: a.Value + b.Value, Found: a.Found || b.Found}
}

// P6.3: each range is divided at its bounds, at the values of rows, and beside them.
func TestDivision(t *testing.T) {
	r := source(7)
	for i := range 150 {
		rows := randomRows(r, 10+i%50)
		s := stateOf(t, rows)
		for k := range 24 {
			q := randomQuery(r, 2+k%6)
			whole := of(t, s, q)
			cuts := []int{q.Low, q.High - 1, q.Low + (q.High-q.Low)/2}
			for _, x := range rows {
				cuts = append(cuts, column(x, q.Column), column(x, q.Column)-1)
			}
			for _, c := range cuts {
				if c < q.Low || c >= q.High {
					continue
				}
				left, right := q, q
				left.High, right.Low = c, c+1
				if got := joined(q, of(t, s, left), of(t, s, right)); !equal(got, whole) {
					t.Fatalf("%+v divided at %d is %v; the whole is %v", q, c, got, whole)
				}
			}
		}
	}
}

// P6.4: changes of rows that are out of the range, before and after, and of rows of other tables.
func TestLocality(t *testing.T) {
	r := source(8)
	added, removed, changed, elsewhere := 0, 0, 0, 0
	for i := range 300 {
		rows := randomRows(r, 5+i%40)
		s := stateOf(t, rows)
		q := randomQuery(r, 1+i%7)
		want := of(t, s, q)
		for range 60 {
			next := randomRows(r, 1)[0]
			c := api.Change{Table: next.Table, Key: next.Key, Has: r.IntN(3) > 0}
			old, had := s.Get(c.Table, c.Key)
			c.Had, c.Old = had, old.V
			if c.Has {
				c.New = next.V
			}
			outside := (!c.Had || !inScan(q, old)) && (!c.Has || !inScan(q, next))
			if !outside || !c.Had && !c.Has || c.Had && c.Has && c.Old == c.New || q.Kind == api.QJoin && c.Table == q.Other {
				continue
			}
			apply(t, s, c)
			if got := of(t, s, q); !equal(got, want) {
				t.Fatalf("%+v changes the result of %+v from %v to %v", c, q, want, got)
			}
			switch {
			case c.Table != q.Table:
				elsewhere++
			case !c.Had:
				added++
			case !c.Has:
				removed++
			default:
				changed++
			}
		}
	}
	if min(added, removed, changed, elsewhere) < 50 {
		t.Errorf("%d added, %d removed, %d changed, %d in other tables", added, removed, changed, elsewhere)
	}
}

// P6.5: whether each row of the scan has a pair is asked of the state, for joins with other tables and with the same one.
func TestPairs(t *testing.T) {
	r := source(9)
	same, with, without := 0, 0, 0
	for i := range 400 {
		s := stateOf(t, randomRows(r, i%60))
		for range 10 {
			q := randomQuery(r, api.QJoin)
			var want []api.Row
			for _, left := range s.Range(query.Scan(q)) {
				right, ok := s.Get(q.Other, left.V[q.By-1])
				if !ok {
					without++
					continue
				}
				want = append(want, left, right)
				with++
				if q.Other == q.Table {
					same++
				}
			}
			if got := of(t, s, q); !equal(got, api.Result{Rows: want}) {
				t.Fatalf("the pairs of %+v are %v; want %v", q, got, want)
			}
		}
	}
	if min(same, with, without) < 50 {
		t.Errorf("%d pairs, %d of them within a table, and %d rows without", with, same, without)
	}
}

// R3: arguments are not modified, and neither is their spare capacity; results share no memory with them or with each other.
func TestMemory(t *testing.T) {
	r := source(10)
	spare := line(9, 9, 9, 9, 9)
	for i := range 140 {
		q := randomQuery(r, 1+i%7)
		rows, others := randomRows(r, 12), randomRows(r, 30)
		givenRows, givenOthers := withSpare(rows, spare), withSpare(others, spare)
		first, second := eval.From(q, givenRows, givenOthers), eval.From(q, givenRows, givenOthers)
		want := refFrom(q, rows, others)
		fill(first.Rows, line(8, 8, 8, 8, 8))
		if !equal(second, want) {
			t.Fatalf("results of %+v share memory", q)
		}
		if !slices.Equal(givenRows[:cap(givenRows)], append(slices.Clone(rows), spare, spare)) || !slices.Equal(givenOthers[:cap(givenOthers)], append(slices.Clone(others), spare, spare)) {
			t.Fatalf("arguments of %+v are modified", q)
		}
		fill(givenRows, spare)
		fill(givenOthers, spare)
		if !equal(second, want) {
			t.Fatalf("a result of %+v shares memory with arguments", q)
		}
	}
}

// withSpare returns a copy of l with a spare capacity of two rows, which contains x.
func withSpare(l []api.Row, x api.Row) []api.Row {
	out := make([]api.Row, len(l)+2)
	copy(out, l)
	out[len(l)], out[len(l)+1] = x, x
	return out[:len(l)]
}

func fill(l []api.Row, x api.Row) {
	l = l[:cap(l)]
	for i := range l {
		l[i] = x
	}
}

// R3, R4: a state is not modified by results, a result not by later records, and the same call gives the same again.
func TestRepeated(t *testing.T) {
	r := source(11)
	for range 40 {
		rows := randomRows(r, 40)
		s := stateOf(t, rows)
		for kind := api.QRow; kind <= api.QJoin; kind++ {
			q := randomQuery(r, kind)
			want := refOf(q, rows)
			kept := of(t, s, q)
			for range 3 {
				got := of(t, s, q)
				if !equal(got, want) {
					t.Fatalf("Of(%+v) = %v; want %v", q, got, want)
				}
				fill(got.Rows, line(8, 8, 8, 8, 8))
				eval.Of(s, api.Query{Kind: kind, Column: 9})
			}
			later := s.Clone()
			for _, x := range rows {
				apply(t, later, api.Change{Table: x.Table, Key: x.Key, Had: true, Old: x.V})
			}
			if got := of(t, later, q); !equal(got, api.Result{}) || !equal(kept, want) {
				t.Fatalf("%+v on no rows is %v, and was %v before", q, got, kept)
			}
		}
		if s.Len() != len(rows) || s.Position() != len(rows) {
			t.Fatalf("the state is modified")
		}
	}
}
