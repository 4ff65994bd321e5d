package match_test

import (
	"maps"
	"math"
	"slices"
	"testing"

	"cachetier/api"
	"cachetier/eval"
	"cachetier/match"
	"cachetier/query"
	"cachetier/row"
	"cachetier/store"
)

// P8.2: over long logs, each query whose result changes is matched.
func TestNothingMissed(t *testing.T) {
	r := source(10)
	changedResults, same := map[int]int{}, map[int]int{}
	for range 40 {
		m := randomQueries(r, 60)
		x := indexOf(t, r, m)
		s := store.New()
		before := resultsOf(t, s, m)
		for range 60 {
			applied := randomRecord(r, s, 8)
			if len(applied.Changes) == 0 {
				continue
			}
			if err := s.Apply(applied); err != api.OK {
				t.Fatalf("Apply(%+v) = %d", applied, err)
			}
			after := resultsOf(t, s, m)
			matched := x.Match(applied)
			for id, q := range m {
				if eval.Same(before[id], after[id]) {
					same[q.Kind]++
					continue
				}
				changedResults[q.Kind]++
				if !slices.Contains(matched, id) {
					t.Fatalf("%+v changes %+v from %v to %v, but matches only %v", applied, q, before[id], after[id], matched)
				}
			}
			before = after
		}
	}
	for kind := api.QRow; kind <= api.QJoin; kind++ {
		if min(changedResults[kind], same[kind]) < 500 {
			t.Errorf("the kind %d: %d results change, %d do not", kind, changedResults[kind], same[kind])
		}
	}
}

func resultsOf(t *testing.T, s *store.State, m reference) map[int]api.Result {
	t.Helper()
	out := map[int]api.Result{}
	for id, q := range m {
		result, err := eval.Of(s, q)
		if err != api.OK {
			t.Fatalf("Of(%+v) = %d", q, err)
		}
		out[id] = result
	}
	return out
}

// P8.3: the order in which queries are added makes no difference, nor do others that come and go.
func TestHistory(t *testing.T) {
	r := source(11)
	for i := range 60 {
		m := randomQueries(r, i*2)
		indexes := []*match.Index{indexOf(t, r, m), indexOf(t, r, m), crowded(t, m, randomQueries(r, 100)), crowded(t, m, randomQueries(r, 300))}
		for range 60 {
			c := wildRecord(r)
			for _, x := range indexes {
				wantMatch(t, x, m, c)
			}
		}
	}
}

// crowded returns an Index with the queries of m, in which each number that m or others has was that of another query before.
func crowded(t *testing.T, m, others reference) *match.Index {
	t.Helper()
	x, ids := match.New(), maps.Clone(others)
	maps.Copy(ids, m)
	for id := range ids {
		mustAdd(t, x, id, api.Query{Kind: api.QRange, Column: id & 3, Low: -9, High: 9})
	}
	for id := range ids {
		if !x.Remove(id) {
			t.Fatalf("%d is not there", id)
		}
		if q, ok := m[id]; ok {
			mustAdd(t, x, id, q)
		} else {
			mustAdd(t, x, id, others[id])
		}
	}
	for id := range others {
		if _, ok := m[id]; !ok && !x.Remove(id) {
			t.Fatalf("%d is not there", id)
		}
	}
	return x
}

// P8.4: a record matches what its changes match, each alone, in whatever order and however often.
func TestEachChange(t *testing.T) {
	r := source(12)
	for range 60 {
		x := indexOf(t, r, randomQueries(r, 80))
		for range 60 {
			c := wildRecord(r)
			found := map[int]bool{}
			for _, one := range c.Changes {
				for _, id := range x.Match(record(one)) {
					found[id] = true
				}
			}
			want := slices.Sorted(maps.Keys(found))
			if got := x.Match(c); !slices.Equal(got, want) {
				t.Fatalf("Match(%+v) = %v; its changes match %v", c, got, want)
			}
			again := api.Record{Position: pick(r, 0, 7, -5), Changes: slices.Concat(c.Changes, c.Changes)}
			slices.Reverse(again.Changes)
			if got := x.Match(again); !slices.Equal(got, want) {
				t.Fatalf("Match(%+v) = %v; its changes match %v", again, got, want)
			}
		}
	}
}

// P8.4: a record with many changes.
func TestManyChanges(t *testing.T) {
	r := source(13)
	m := randomQueries(r, 500)
	x := indexOf(t, r, m)
	var c api.Record
	for range 2000 {
		c.Changes = append(c.Changes, randomChange(r), damaged(r))
	}
	wantMatch(t, x, m, c)
	if few := len(x.Match(c)); few < 400 {
		t.Errorf("2000 changes match %d queries", few)
	}
}

// everything returns queries that read all rows of all tables, of all kinds for which there are such queries.
func everything() reference {
	m := reference{}
	for table := range 4 {
		for kind := api.QRange; kind <= api.QJoin; kind++ {
			for column := range 4 {
				q := api.Query{Kind: kind, Table: table, Column: column, Low: -1000000000, High: 1000000000}
				if kind >= api.QSum {
					q.By = 3
				}
				if kind == api.QJoin {
					q.Other = column
				}
				m[len(m)] = q
			}
		}
	}
	return m
}

// P8.4: changes that are not valid match nothing, not even the queries that read everything.
func TestInvalidChanges(t *testing.T) {
	r := source(14)
	m := everything()
	x := indexOf(t, r, m)
	bad := []api.Change{{}, {Key: 1}, {Key: 1, Had: true, Has: true}, {Key: 1, Has: true, Old: [3]int{0, 0, 1}}, {Key: 1, Had: true, New: [3]int{1}}, {Has: true}, {Table: 4, Key: 1, Has: true}, {Key: 1000001, Had: true}, {Key: 1, Has: true, New: [3]int{0, math.MinInt, 0}}, {Key: math.MinInt, Has: true, New: [3]int{math.MaxInt, math.MinInt, math.MaxInt}}}
	for range 3000 {
		bad = append(bad, damaged(r))
	}
	for _, c := range bad {
		if row.ValidChange(c) {
			t.Fatalf("%+v is valid", c)
		}
		if got := x.Match(record(c)); len(got) > 0 {
			t.Fatalf("Match(%+v) = %v", c, got)
		}
	}
	for _, changes := range [][]api.Change{bad, nil, {}} {
		if got := x.Match(api.Record{Position: 1, Changes: changes}); len(got) > 0 {
			t.Errorf("a record without a valid change matches %v", got)
		}
	}
	wantMatch(t, x, m, record(append(bad, added(line(3, 1, 0, 0, 0)))...))
}

// P8.5: a QRow is matched exactly if a valid change is about its table and key.
func TestRows(t *testing.T) {
	r := source(15)
	keys := []int{1, 2, 3, 4, 5, 511, 512, 513, 999999, 1000000}
	x, ids := match.New(), map[[2]int]int{}
	for table := range 4 {
		for _, key := range keys {
			place := [2]int{table, key}
			ids[place] = len(ids)
			mustAdd(t, x, ids[place], api.Query{Kind: api.QRow, Table: table, Low: key, High: key})
		}
	}
	matched := 0
	for range 5000 {
		c := wildRecord(r)
		for i := range c.Changes {
			if r.IntN(3) == 0 && row.ValidChange(c.Changes[i]) {
				c.Changes[i].Key = keys[r.IntN(len(keys))]
			}
		}
		found := map[int]bool{}
		for _, one := range c.Changes {
			if id, ok := ids[[2]int{one.Table, one.Key}]; ok && row.ValidChange(one) {
				found[id] = true
			}
		}
		want := slices.Sorted(maps.Keys(found))
		if got := x.Match(c); !slices.Equal(got, want) {
			t.Fatalf("Match(%+v) = %v, want %v", c, got, want)
		}
		matched += len(want)
	}
	if matched < 5000 {
		t.Errorf("only %d rows are matched", matched)
	}
}

// R3: a record is not changed, nor what is behind its changes, and a result shares no memory with others or with the Index.
func TestMemory(t *testing.T) {
	r := source(16)
	m := randomQueries(r, 100)
	x := indexOf(t, r, m)
	for range 1000 {
		c := wildRecord(r)
		all := append(slices.Clone(c.Changes), randomChange(r), damaged(r))
		then := slices.Clone(all)
		c.Changes = all[:len(c.Changes)]
		want := m.match(c)
		first := x.Match(c)
		second := x.Match(c)
		if !slices.Equal(all, then) {
			t.Fatal("Match changes its argument")
		}
		clear(first[:cap(first)])
		clear(all)
		if !slices.Equal(second, want) {
			t.Fatal("two results share memory")
		}
		clear(second[:cap(second)])
		wantMatch(t, x, m, api.Record{Changes: then})
	}
}

// R4: Match gives the same over and over, and changes nothing; a query is kept as it was when it was added.
func TestRepeated(t *testing.T) {
	r := source(17)
	m := randomQueries(r, 200)
	x := indexOf(t, r, m)
	type call struct {
		c    api.Record
		want []int
	}
	var calls []call
	for range 300 {
		c := wildRecord(r)
		calls = append(calls, call{c: c, want: x.Match(c)})
	}
	for range 5 {
		r.Shuffle(len(calls), func(i, k int) { calls[i], calls[k] = calls[k], calls[i] })
		for _, y := range calls {
			if got := x.Match(y.c); !slices.Equal(got, y.want) {
				t.Fatalf("Match(%+v) = %v; it was %v", y.c, got, y.want)
			}
		}
	}
}

// The random queries and changes of these tests are valid, and records match some queries and not all.
func TestRandom(t *testing.T) {
	r := source(18)
	m := randomQueries(r, 300)
	touched := 0
	for range 1000 {
		touched += len(m.match(record(randomChange(r))))
	}
	for _, q := range m {
		if !query.Valid(q) {
			t.Fatalf("%+v is not valid", q)
		}
	}
	if touched < 1000*300/20 || touched > 1000*300/2 {
		t.Errorf("a change touches %d of 300000 queries", touched)
	}
}
