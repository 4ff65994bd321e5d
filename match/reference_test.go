package match_test

import (
	"cmp"
	"maps"
	"math"
	"math/rand/v2"
	"slices"
	"testing"

	"cachetier/api"
	"cachetier/match"
	"cachetier/predicate"
	"cachetier/query"
	"cachetier/row"
	"cachetier/store"
)

// reference is what an Index contains; it looks at all queries for every change.
type reference map[int]api.Query

func (m reference) add(id int, q api.Query) api.Errno {
	if _, taken := m[id]; taken || !query.Valid(q) || len(m) == 500 {
		return api.ErrIndex
	}
	m[id] = q
	return api.OK
}

func (m reference) remove(id int) bool {
	_, ok := m[id]
	delete(m, id)
	return ok
}

func (m reference) match(r api.Record) []int {
	var out []int
	for _, id := range slices.Sorted(maps.Keys(m)) {
		if slices.ContainsFunc(r.Changes, func(c api.Change) bool { return predicate.Touches(m[id], c) }) {
			out = append(out, id)
		}
	}
	return out
}

// indexOf returns an Index with the queries of m, added in a random order.
func indexOf(t *testing.T, r *rand.Rand, m reference) *match.Index {
	t.Helper()
	x := match.New()
	ids := slices.Sorted(maps.Keys(m))
	r.Shuffle(len(ids), func(i, k int) { ids[i], ids[k] = ids[k], ids[i] })
	for _, id := range ids {
		mustAdd(t, x, id, m[id])
	}
	return x
}

func mustAdd(t *testing.T, x *match.Index, id int, q api.Query) {
	t.Helper()
	if err := x.Add(id, q); err != api.OK {
		t.Fatalf("Add(%d, %+v) = %d", id, q, err)
	}
}

// parsed returns the query with a line.
func parsed(t *testing.T, line string) api.Query {
	t.Helper()
	q, err := query.Parse(line)
	if err != api.OK {
		t.Fatalf("%s is no query", line)
	}
	return q
}

// wantMatch requires that x matches what m does, and has as many queries.
func wantMatch(t *testing.T, x *match.Index, m reference, r api.Record) {
	t.Helper()
	if got, want := x.Match(r), m.match(r); !slices.Equal(got, want) {
		t.Fatalf("Match(%+v) = %v, want %v", r, got, want)
	}
	if x.Len() != len(m) {
		t.Fatalf("Len() = %d, want %d", x.Len(), len(m))
	}
}

// record returns a record with changes, which need not be valid.
func record(changes ...api.Change) api.Record {
	return api.Record{Position: 1, Changes: changes}
}

func line(table, key, a, b, c int) api.Row {
	return api.Row{Table: table, Key: key, V: [3]int{a, b, c}}
}

// The changes of a row; the last two have the place of the row which they change.

func added(x api.Row) api.Change {
	return api.Change{Table: x.Table, Key: x.Key, Has: true, New: x.V}
}

func removed(x api.Row) api.Change {
	return api.Change{Table: x.Table, Key: x.Key, Had: true, Old: x.V}
}

func changed(x api.Row, a, b, c int) api.Change {
	return api.Change{Table: x.Table, Key: x.Key, Had: true, Old: x.V, Has: true, New: [3]int{a, b, c}}
}

func source(n uint64) *rand.Rand { return rand.New(rand.NewPCG(8, n)) }

func pick(r *rand.Rand, list ...int) int { return list[r.IntN(len(list))] }

// someValue returns a value that is often that of another row, or a key, sometimes one at a power of two or at a bound, and sometimes any.
func someValue(r *rand.Rand) int {
	switch r.IntN(16) {
	case 0:
		return pick(r, 1000000, 1000000000, -1000000000, 999999999, -999999999)
	case 1:
		return pick(r, -1, 1)<<r.IntN(30) + r.IntN(3) - 1
	case 2:
		return r.IntN(2000000001) - 1000000000
	}
	return r.IntN(9) - 2
}

func someValues(r *rand.Rand) [3]int { return [3]int{someValue(r), someValue(r), someValue(r)} }

// someKey returns a key, which is mostly one of few.
func someKey(r *rand.Rand) int {
	return pick(r, 1+r.IntN(6), 1+r.IntN(6), 1+r.IntN(6), 1+r.IntN(1000000), 1000000)
}

// randomQuery returns a valid query of a kind, mostly of the tables 0 and 1.
func randomQuery(r *rand.Rand, kind int) api.Query {
	q := api.Query{Kind: kind, Table: pick(r, 0, 0, 0, 1, 1, 1, 2, 3)}
	if kind == api.QRow {
		q.Low = someKey(r)
		q.High = q.Low
		return q
	}
	a, b := someValue(r), someValue(r)
	q.Column, q.Low, q.High = r.IntN(4), min(a, b), max(a, b)
	if kind >= api.QSum {
		q.By = 1 + r.IntN(3)
	}
	if kind == api.QJoin {
		q.Other = pick(r, 0, 1, 2, 3, q.Table)
	}
	return q
}

// randomQueries returns n valid queries, whose numbers are any integers.
func randomQueries(r *rand.Rand, n int) reference {
	m := reference{}
	for len(m) < n {
		m[pick(r, r.IntN(2000)-1000, int(r.Uint64()))] = randomQuery(r, 1+r.IntN(7))
	}
	return m
}

// randomChange returns a valid change, mostly of the tables 0 and 1.
func randomChange(r *rand.Rand) api.Change {
	for {
		c := api.Change{Table: pick(r, 0, 0, 0, 1, 1, 1, 2, 3), Key: someKey(r), Had: r.IntN(3) > 0, Has: r.IntN(3) > 0}
		if c.Had {
			c.Old = someValues(r)
		}
		if c.Has {
			c.New = someValues(r)
		}
		if c.Had && c.Has && r.IntN(2) == 0 { // a change of one column only
			c.New = c.Old
			c.New[r.IntN(3)] = someValue(r)
		}
		if row.ValidChange(c) {
			return c
		}
	}
}

// randomInvalid returns n queries that are not valid because of one number.
func randomInvalid(r *rand.Rand, n int) []api.Query {
	var out []api.Query
	for len(out) < n {
		q := randomQuery(r, 1+r.IntN(7))
		numbers := []*int{&q.Kind, &q.Table, &q.Column, &q.Low, &q.High, &q.By, &q.Other}
		*numbers[r.IntN(7)] = pick(r, r.IntN(10)-1, r.IntN(10)-1, 1000000001, -1000000001, math.MinInt, math.MaxInt)
		if !query.Valid(q) {
			out = append(out, q)
		}
	}
	return out
}

// damaged returns a change that is not valid, but differs from a valid one only a little.
func damaged(r *rand.Rand) api.Change {
	for {
		c := randomChange(r)
		switch r.IntN(6) {
		case 0:
			c.Table = pick(r, -1, 4, math.MinInt, math.MaxInt)
		case 1:
			c.Key = pick(r, 0, -1, 1000001, math.MinInt, math.MaxInt)
		case 2:
			c.Had = !c.Had
		case 3:
			c.Has = !c.Has
		case 4:
			c.New = c.Old
		default:
			c.Old[r.IntN(3)] = pick(r, 1000000001, -1000000001, math.MinInt, math.MaxInt)
		}
		if !row.ValidChange(c) {
			return c
		}
	}
}

// wildRecord returns a record that need not be valid: with any number of changes, in any order, of which some are not valid.
func wildRecord(r *rand.Rand) api.Record {
	x := api.Record{Position: pick(r, 1, 10000, 0, -1, 10001, math.MaxInt, math.MinInt)}
	for range r.IntN(12) {
		if r.IntN(5) == 0 {
			x.Changes = append(x.Changes, damaged(r))
		} else {
			x.Changes = append(x.Changes, randomChange(r))
		}
	}
	return x
}

// randomRecord returns a record of up to n changes that can be applied to a state, if it has any.
func randomRecord(r *rand.Rand, s *store.State, n int) api.Record {
	x := api.Record{Position: s.Position() + 1}
	for range 1 + r.IntN(n) {
		c := randomChange(r)
		old, had := s.Get(c.Table, c.Key)
		c.Had, c.Old = had, old.V
		if had && c.Has && r.IntN(2) == 0 {
			c.New = c.Old
			c.New[r.IntN(3)] = someValue(r)
		}
		taken := slices.ContainsFunc(x.Changes, func(y api.Change) bool { return y.Table == c.Table && y.Key == c.Key })
		if row.ValidChange(c) && !taken {
			x.Changes = append(x.Changes, c)
		}
	}
	slices.SortFunc(x.Changes, func(a, b api.Change) int {
		return cmp.Or(cmp.Compare(a.Table, b.Table), cmp.Compare(a.Key, b.Key))
	})
	return x
}
