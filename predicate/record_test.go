package predicate_test

import (
	"math"
	"math/rand/v2"
	"slices"
	"testing"

	"cachetier/api"
	"cachetier/eval"
	"cachetier/predicate"
	"cachetier/query"
	"cachetier/row"
	"cachetier/store"
)

// P7.1: queries, results and changes of any kind.
func TestReference(t *testing.T) {
	r := source(2)
	touched, unknown := map[int]int{}, map[int]int{}
	for i := range 140000 {
		q, before, c := randomQuery(r, 1+i%7), wildResult(r), randomChange(r)
		if r.IntN(10) == 0 {
			c = damage(r, c)
		}
		touches := refTouches(q, c)
		if got := predicate.Touches(q, c); got != touches {
			t.Fatalf("Touches(%+v, %+v) = %t", q, c, got)
		}
		want, known := refPatch(q, before, c)
		if got, ok := predicate.Patch(q, before, c); ok != known || !equal(got, want) {
			t.Fatalf("Patch(%+v, %v, %+v) = %v, %t; want %v, %t", q, before, c, got, ok, want, known)
		}
		if touches {
			touched[q.Kind]++
		}
		if !known {
			unknown[q.Kind]++
		}
	}
	for kind := api.QRow; kind <= api.QJoin; kind++ {
		if touched[kind] < 500 || touched[kind] > 19000 {
			t.Errorf("%d of 20000 changes touch a query of the kind %d", touched[kind], kind)
		}
		if few := unknown[kind] < 500; few != (kind < api.QMin) {
			t.Errorf("%d results of the kind %d are unknown", unknown[kind], kind)
		}
	}
}

// P7.1: records of any kind, which need not be valid, and have any number of changes.
func TestApplyReference(t *testing.T) {
	r := source(3)
	outcomes := map[[2]bool]int{}
	for i := range 70000 {
		q, before := randomQuery(r, 1+i%7), wildResult(r)
		x := api.Record{Position: pick(r, 1, 10000, 0, -1, math.MaxInt)}
		for range r.IntN(11) {
			c := randomChange(r)
			if r.IntN(6) == 0 {
				c = damage(r, c)
			}
			x.Changes = append(x.Changes, c)
		}
		want, touches, known := refApply(q, before, x.Changes)
		got, touched, ok := predicate.Apply(q, before, x)
		if ok != known || touched != touches || !equal(got, want) {
			t.Fatalf("Apply(%+v, %v, %+v) = %v, %t, %t; want %v, %t, %t", q, before, x, got, touched, ok, want, touches, known)
		}
		outcomes[[2]bool{touched, ok}]++
	}
	if min(outcomes[[2]bool{true, true}], outcomes[[2]bool{false, true}], outcomes[[2]bool{true, false}]) < 5000 || outcomes[[2]bool{false, false}] > 0 {
		t.Errorf("touched and known, not touched, unknown: %v", outcomes)
	}
}

// P7.1: each change meets the result of the one before, and the first that makes it unknown ends it.
func TestApplyInTurn(t *testing.T) {
	least := api.Query{Kind: api.QMin, Column: 1, Low: 0, High: 9, By: 2}
	seven := api.Result{Value: 7, Found: true}
	a, b := line(0, 1, 1, 5, 0), line(0, 2, 1, 6, 0)
	for _, x := range []struct {
		before  api.Result
		changes []api.Change
		want    api.Result
		touched bool
		known   bool
	}{
		{seven, nil, seven, false, true},
		{seven, []api.Change{added(line(0, 1, 10, 1, 0)), {}}, seven, false, true},
		{seven, []api.Change{added(a), added(b)}, api.Result{Value: 5, Found: true}, true, true},
		{seven, []api.Change{added(b), removed(a)}, api.Result{}, true, false},
		{seven, []api.Change{added(a), removed(b)}, api.Result{Value: 5, Found: true}, true, true},
		{seven, []api.Change{removed(line(0, 1, 1, 7, 0)), added(b)}, api.Result{}, true, false},
		{seven, []api.Change{added(b), removed(line(0, 3, 1, 7, 0))}, api.Result{Value: 6, Found: true}, true, true},
		{seven, []api.Change{added(line(0, 1, 10, 1, 0)), added(line(0, 2, 1, 9, 0)), added(line(0, 3, 10, 1, 0))}, seven, true, true},
		{api.Result{}, []api.Change{added(a), changed(a, 1, 4, 0), changed(line(0, 1, 1, 4, 0), 2, 3, 0)}, api.Result{Value: 3, Found: true}, true, true},
		{api.Result{}, []api.Change{added(a), removed(a)}, api.Result{}, true, false},
	} {
		got, touched, ok := predicate.Apply(least, x.before, api.Record{Position: 1, Changes: x.changes})
		if touched != x.touched || ok != x.known || !equal(got, x.want) {
			t.Errorf("Apply(%v, %+v) = %v, %t, %t", x.before, x.changes, got, touched, ok)
		}
	}
	join := api.Query{Kind: api.QJoin, Column: 1, Low: 0, High: 9, By: 2, Other: 1}
	left, next, one := line(0, 4, 1, 1, 0), line(0, 5, 2, 1, 0), line(1, 1, 7, 0, 0)
	before := api.Result{Rows: []api.Row{left, one}}
	for _, x := range []struct {
		changes []api.Change
		want    []api.Row
		known   bool
	}{
		{[]api.Change{added(next), removed(one)}, nil, true},
		{[]api.Change{removed(one), added(next)}, nil, false},
		{[]api.Change{added(next), removed(left)}, []api.Row{next, one}, true},
		{[]api.Change{removed(left), added(next)}, nil, false},
		{[]api.Change{added(next), changed(one, 8, 0, 0)}, []api.Row{left, line(1, 1, 8, 0, 0), next, line(1, 1, 8, 0, 0)}, true},
	} {
		got, touched, ok := predicate.Apply(join, before, api.Record{Position: 1, Changes: x.changes})
		if !touched || ok != x.known || !equal(got, api.Result{Rows: x.want}) {
			t.Errorf("Apply(%v, %+v) = %v, %t, %t", before, x.changes, got, touched, ok)
		}
	}
}

// P7.2, P7.3: results before and after records on states, for queries of all kinds.
func TestTheorems(t *testing.T) {
	r := source(4)
	untouched, patched, unknown := map[int]int{}, map[int]int{}, map[int]int{}
	for range 300 {
		s := grown(t, r, r.IntN(25))
		for range 10 {
			x := randomRecord(r, s, 8)
			if len(x.Changes) == 0 {
				continue
			}
			next := after(t, s, x)
			for k := range 42 {
				q := randomQuery(r, 1+k%7)
				before, want := of(t, s, q), of(t, next, q)
				got, touched, ok := predicate.Apply(q, before, x)
				switch {
				case !touched && (!ok || !equal(before, want)):
					t.Fatalf("%+v does not touch %+v, whose result goes from %v to %v", x, q, before, want)
				case ok && !equal(got, want):
					t.Fatalf("Apply(%+v, %v, %+v) = %v; the result is %v", q, before, x, got, want)
				case !touched:
					untouched[q.Kind]++
				case ok:
					patched[q.Kind]++
				default:
					unknown[q.Kind]++
				}
			}
			s = next
		}
	}
	for kind := api.QRow; kind <= api.QJoin; kind++ {
		if min(untouched[kind], patched[kind]) < 1000 || unknown[kind] > 0 != (kind >= api.QMin) {
			t.Errorf("the kind %d: %d untouched, %d patched, %d unknown", kind, untouched[kind], patched[kind], unknown[kind])
		}
	}
}

// P7.3: a result is kept over many records, and taken from the state again only where it is unknown.
func TestKept(t *testing.T) {
	r := source(5)
	for i := range 140 {
		s := store.New()
		q := randomQuery(r, 1+i%7)
		kept := of(t, s, q)
		for range 150 {
			x := randomRecord(r, s, 4)
			if len(x.Changes) == 0 {
				continue
			}
			s = after(t, s, x)
			got, _, ok := predicate.Apply(q, kept, x)
			want := of(t, s, q)
			if ok && !equal(got, want) {
				t.Fatalf("%+v at the position %d is kept as %v; it is %v", q, s.Position(), got, want)
			}
			kept = want
			if ok {
				kept = got
			}
		}
	}
}

// fullState returns a state with 2000 rows in the tables 0 and 1; the measures in the column 2 are keys of both.
func fullState(t *testing.T) *store.State {
	t.Helper()
	s := store.New()
	for i := 0; i < 2000; i += 8 {
		x := api.Record{Position: s.Position() + 1}
		for k := i; k < i+8; k++ {
			x.Changes = append(x.Changes, added(line(k/1000, 1+k%1000, k*7919%2000-1000, 1+k*31%1000, k%10)))
		}
		s = after(t, s, x)
	}
	return s
}

// P7.1, P7.3: results with all rows of a state of 2000 rows.
func TestLongResults(t *testing.T) {
	s := fullState(t)
	for kind := api.QRange; kind <= api.QJoin; kind++ {
		q := api.Query{Kind: kind, Column: 1, Low: -1000000000, High: 1000000000}
		if kind >= api.QSum {
			q.By = 2
		}
		if kind == api.QJoin {
			q.Other = 1
		}
		before := of(t, s, q)
		old, _ := s.Get(0, 500)
		right, _ := s.Get(1, 17)
		x := api.Record{Position: s.Position() + 1, Changes: []api.Change{changed(old, 3, 18, 0), removed(right)}}
		want := of(t, after(t, s, x), q)
		if got, touched, ok := predicate.Apply(q, before, x); touched != (kind != api.QCount) || !ok || !equal(got, want) {
			t.Errorf("Apply(%+v) of %d rows = %d rows, %d, %t, %t; want %d rows, %d", q, len(before.Rows), len(got.Rows), got.Value, touched, ok, len(want.Rows), want.Value)
		}
	}
}

// P7.4: rows, counts and sums are patched whatever they are.
func TestAlwaysPatched(t *testing.T) {
	r := source(6)
	for i := range 40000 {
		q, before, c := randomQuery(r, 1+i%4), wildResult(r), randomChange(r)
		if _, ok := predicate.Patch(q, before, c); !ok {
			t.Fatalf("Patch(%+v, %v, %+v) is unknown", q, before, c)
		}
	}
}

// P7.4: a least or greatest measure is unknown exactly if its row goes, or becomes worse, and no matter what other rows there are.
func TestExtremesUnknown(t *testing.T) {
	r := source(7)
	gone, worse, other := 0, 0, 0
	for i := range 400 {
		s := grown(t, r, 1+i%20)
		for k := range 60 {
			q := randomQuery(r, api.QMin+k%2)
			x := randomRecord(r, s, 1)
			if len(x.Changes) == 0 {
				continue
			}
			c, result := x.Changes[0], of(t, s, q)
			before, after := measuresOf(q, c)
			lost := len(before) == 1 && before[0] == result.Value && len(after) == 0
			worsened := len(before) == 1 && before[0] == result.Value && len(after) == 1 && (q.Kind == api.QMin && after[0] > before[0] || q.Kind == api.QMax && after[0] < before[0])
			if _, ok := predicate.Patch(q, result, c); ok == (lost || worsened) {
				t.Fatalf("Patch(%+v, %v, %+v) is known: %t", q, result, c, ok)
			}
			switch {
			case lost:
				gone++
			case worsened:
				worse++
			case predicate.Touches(q, c):
				other++
			}
		}
	}
	if min(gone, worse, other) < 200 {
		t.Errorf("%d gone, %d worse, %d others", gone, worse, other)
	}
}

// measuresOf returns the measures of the scan's rows before and after c.
func measuresOf(q api.Query, c api.Change) ([]int, []int) {
	before, after := scans(q, c)
	return measures(q, before), measures(q, after)
}

// permute calls f with each order of the elements from the index n on.
func permute(list []api.Change, n int, f func([]api.Change)) {
	if n == len(list) {
		f(list)
	}
	for i := n; i < len(list); i++ {
		list[n], list[i] = list[i], list[n]
		permute(list, n+1, f)
		list[n], list[i] = list[i], list[n]
	}
}

// P7.5: all orders of the changes of a record, of which each, alone, touches the query or does not.
func TestOrder(t *testing.T) {
	r := source(8)
	count := map[bool]int{}
	for i := range 700 {
		s := grown(t, r, i%15)
		x := randomRecord(r, s, 8)
		x.Changes = x.Changes[:min(len(x.Changes), 5)]
		q := randomQuery(r, 1+i%7)
		result := of(t, s, q)
		want := slices.ContainsFunc(x.Changes, func(c api.Change) bool { return predicate.Touches(q, c) })
		count[want]++
		permute(slices.Clone(x.Changes), 0, func(list []api.Change) {
			_, touched, _ := predicate.Apply(q, result, api.Record{Position: x.Position, Changes: list})
			if touched != want {
				t.Fatalf("%+v touches %+v: %t; any change alone: %t", list, q, touched, want)
			}
		})
	}
	if min(count[false], count[true]) < 100 {
		t.Errorf("%d records touch a query, %d do not", count[true], count[false])
	}
}

// roomy returns a copy of rows in memory with spare capacity, and all of this memory.
func roomy(r *rand.Rand, rows []api.Row) ([]api.Row, []api.Row) {
	all := append(slices.Clone(rows), wildRows(r, 8)...)
	return all[:len(rows)], all
}

// R3: arguments are not changed, nor what is behind them, and results share no memory with them or with each other.
func TestMemory(t *testing.T) {
	r := source(9)
	for i := range 14000 {
		q, before := randomQuery(r, 1+i%7), wildResult(r)
		rows, all := roomy(r, before.Rows)
		x := api.Record{Position: 1, Changes: make([]api.Change, 0, 8)}
		for range 1 + r.IntN(3) {
			x.Changes = append(x.Changes, randomChange(r))
		}
		rowsThen, changesThen := slices.Clone(all), slices.Clone(x.Changes[:8])
		given := api.Result{Rows: rows, Value: before.Value, Found: before.Found}
		var results []api.Result
		for range 2 {
			one, _ := predicate.Patch(q, given, x.Changes[0])
			many, _, _ := predicate.Apply(q, given, x)
			results = append(results, one, many)
		}
		for k, got := range results {
			want := slices.Clone(got.Rows)
			for _, other := range results[:k] {
				spoil(other.Rows)
			}
			spoil(all)
			if !slices.Equal(got.Rows, want) {
				t.Fatalf("the result %d of %+v shares memory", k, q)
			}
			copy(all, rowsThen)
		}
		for _, got := range results {
			spoil(got.Rows)
		}
		if !slices.Equal(all, rowsThen) || !slices.Equal(x.Changes[:8], changesThen) {
			t.Fatalf("an argument of %+v is changed", q)
		}
	}
}

// spoil overwrites rows and their spare capacity.
func spoil(rows []api.Row) {
	for i := range rows[:cap(rows)] {
		rows[:cap(rows)][i] = line(9, 9, 9, 9, 9)
	}
}

// R3: nil and empty rows, and nil and empty changes, are equivalent.
func TestEmpty(t *testing.T) {
	r := source(10)
	for i := range 7000 {
		q, c := randomQuery(r, 1+i%7), randomChange(r)
		some := api.Result{Value: someValue(r), Found: r.IntN(2) == 0}
		empty := some
		empty.Rows = []api.Row{}
		a, aok := predicate.Patch(q, some, c)
		b, bok := predicate.Patch(q, empty, c)
		if aok != bok || !equal(a, b) {
			t.Fatalf("Patch(%+v) of nil rows is %v, of no rows %v", q, a, b)
		}
		for _, changes := range [][]api.Change{nil, {}} {
			if got, touched, ok := predicate.Apply(q, some, api.Record{Position: 1, Changes: changes}); touched || !ok || !equal(got, some) {
				t.Fatalf("Apply(%+v, %v) of no changes = %v, %t, %t", q, some, got, touched, ok)
			}
		}
	}
}

// R4: the same arguments give the same results, whatever is asked in between.
func TestRepeated(t *testing.T) {
	r := source(11)
	type call struct {
		q    api.Query
		r    api.Result
		c    api.Change
		want api.Result
		ok   bool
	}
	var calls []call
	for i := range 700 {
		x := call{q: randomQuery(r, 1+i%7), r: wildResult(r), c: randomChange(r)}
		x.want, x.ok = predicate.Patch(x.q, x.r, x.c)
		calls = append(calls, x)
	}
	for range 5 {
		r.Shuffle(len(calls), func(i, k int) { calls[i], calls[k] = calls[k], calls[i] })
		for _, x := range calls {
			if got, ok := predicate.Patch(x.q, x.r, x.c); ok != x.ok || !eval.Same(got, x.want) {
				t.Fatalf("Patch(%+v, %v, %+v) = %v, %t; it was %v, %t", x.q, x.r, x.c, got, ok, x.want, x.ok)
			}
		}
	}
}

// The random changes and queries of these tests are valid, and damaged changes are valid and not.
func TestRandom(t *testing.T) {
	r := source(12)
	good, bad := 0, 0
	for i := range 7000 {
		if q := randomQuery(r, 1+i%7); !query.Valid(q) {
			t.Fatalf("%+v is not valid", q)
		}
		c := randomChange(r)
		if !row.ValidChange(c) {
			t.Fatalf("%+v is not valid", c)
		}
		if row.ValidChange(damage(r, c)) {
			good++
		} else {
			bad++
		}
	}
	if min(good, bad) < 300 {
		t.Errorf("%d damaged changes are valid, %d are not", good, bad)
	}
}
