package eval_test

import (
	"math"
	"math/rand/v2"
	"slices"
	"testing"

	"cachetier/api"
	"cachetier/eval"
	"cachetier/query"
	"cachetier/store"
)

// The references below follow the chapter in another way than the package: aggregates are taken from a list of measures, which is sorted for the least and the greatest one, and partners are looked for in the list of the other rows.

func column(r api.Row, c int) int { return []int{r.Key, r.V[0], r.V[1], r.V[2]}[c] }

func inScan(q api.Query, r api.Row) bool {
	return r.Table == q.Table && q.Low <= column(r, q.Column) && column(r, q.Column) <= q.High
}

// refScan puts each row of the scan behind all that have a lesser value, or the same value and a lesser key.
func refScan(q api.Query, rows []api.Row) []api.Row {
	var out []api.Row
	for _, r := range rows {
		if !inScan(q, r) {
			continue
		}
		i := 0
		for i < len(out) && (column(out[i], q.Column) < column(r, q.Column) || column(out[i], q.Column) == column(r, q.Column) && out[i].Key < r.Key) {
			i++
		}
		out = slices.Insert(out, i, r)
	}
	return out
}

func refFrom(q api.Query, rows, others []api.Row) api.Result {
	if !query.Valid(q) {
		return api.Result{}
	}
	var measures []int
	var sum uint64
	for _, r := range rows {
		measures = append(measures, column(r, q.By))
		sum += uint64(column(r, q.By))
	}
	sorted := slices.Sorted(slices.Values(measures))
	switch {
	case q.Kind == api.QRow || q.Kind == api.QRange:
		return api.Result{Rows: rows}
	case q.Kind == api.QCount:
		return api.Result{Value: len(measures)}
	case q.Kind == api.QSum:
		return api.Result{Value: int(sum)}
	case q.Kind == api.QJoin:
		return api.Result{Rows: refPairs(q, rows, others)}
	case len(sorted) == 0:
		return api.Result{}
	case q.Kind == api.QMin:
		return api.Result{Value: sorted[0], Found: true}
	}
	return api.Result{Value: sorted[len(sorted)-1], Found: true}
}

func refPairs(q api.Query, rows, others []api.Row) []api.Row {
	var out []api.Row
	for _, left := range rows {
		i := slices.IndexFunc(others, func(right api.Row) bool {
			return right.Table == q.Other && right.Key == column(left, q.By)
		})
		if i >= 0 {
			out = append(out, left, others[i])
		}
	}
	return out
}

func refOf(q api.Query, rows []api.Row) api.Result {
	return refFrom(q, refScan(q, rows), rows)
}

func equal(a, b api.Result) bool {
	return slices.Equal(a.Rows, b.Rows) && a.Value == b.Value && a.Found == b.Found
}

func source(n uint64) *rand.Rand { return rand.New(rand.NewPCG(6, n)) }

func pick(r *rand.Rand, list ...int) int { return list[r.IntN(len(list))] }

// someValue returns a value that is often that of another row, or a key, and sometimes one at a bound.
func someValue(r *rand.Rand) int {
	return pick(r, 0, r.IntN(14), r.IntN(14), r.IntN(9)-4, r.IntN(2000000001)-1000000000, 1000000, 1000000000, -1000000000)
}

// randomRows returns at most n valid rows with different places, in any order.
func randomRows(r *rand.Rand, n int) []api.Row {
	var out []api.Row
	for range n {
		x := api.Row{Table: r.IntN(4), Key: pick(r, 1+r.IntN(13), 1+r.IntN(13), 1000000), V: [3]int{someValue(r), someValue(r), someValue(r)}}
		if !slices.ContainsFunc(out, func(y api.Row) bool { return x.Table == y.Table && x.Key == y.Key }) {
			out = append(out, x)
		}
	}
	return out
}

// wildRows returns n rows, which may be the same, and many of which are not valid.
func wildRows(r *rand.Rand, n int) []api.Row {
	out := make([]api.Row, 0, n)
	for range n {
		x := api.Row{Table: pick(r, 0, 1, 2, 3, -1, 4), Key: pick(r, r.IntN(6), -1, 1000001, math.MaxInt, math.MinInt)}
		for i := range x.V {
			x.V[i] = pick(r, r.IntN(6), r.IntN(6), someValue(r), math.MaxInt, math.MinInt, math.MaxInt-1, -1000000001)
		}
		out = append(out, x)
	}
	return out
}

// randomQuery returns a valid query of a kind.
func randomQuery(r *rand.Rand, kind int) api.Query {
	q := api.Query{Kind: kind, Table: r.IntN(4)}
	if kind == api.QRow {
		q.Low = pick(r, 1+r.IntN(15), 1000000)
		q.High = q.Low
		return q
	}
	a, b := someValue(r), someValue(r)
	q.Column, q.Low, q.High = r.IntN(4), min(a, b), max(a, b)
	if kind >= api.QSum {
		q.By = 1 + r.IntN(3)
	}
	if kind == api.QJoin {
		q.Other = r.IntN(4)
	}
	return q
}

// invalid returns queries of each kind, and of none, that are not valid because of one field.
func invalid() []api.Query {
	out := []api.Query{{}}
	for _, kind := range []int{-1, 0, 8, 1 << 32, math.MinInt, math.MaxInt} {
		out = append(out, api.Query{Kind: kind, Low: 1, High: 1}, api.Query{Kind: kind, Low: 1, High: 1, By: 1, Other: 1})
	}
	for kind := api.QRow; kind <= api.QJoin; kind++ {
		good := api.Query{Kind: kind, Low: 1, High: 1}
		if kind >= api.QSum {
			good.By = 1
		}
		for _, change := range []func(*api.Query){
			func(q *api.Query) { q.Table = 4 },
			func(q *api.Query) { q.Table = -1 },
			func(q *api.Query) { q.Column = 4 },
			func(q *api.Query) { q.Column = -1 },
			func(q *api.Query) { q.Low = 2 },
			func(q *api.Query) { q.High = 1000000001 },
			func(q *api.Query) { q.Low = -1000000001 },
			func(q *api.Query) { q.By = 4 },
			func(q *api.Query) { q.By = -1 },
			func(q *api.Query) { q.By = 1 - q.By },
			func(q *api.Query) { q.Other = 4 },
			func(q *api.Query) { q.Other = -1 },
		} {
			bad := good
			change(&bad)
			out = append(out, bad)
		}
	}
	return append(out,
		api.Query{Kind: api.QRow},
		api.Query{Kind: api.QRow, Low: 1, High: 2},
		api.Query{Kind: api.QRow, Low: 1000001, High: 1000001},
		api.Query{Kind: api.QRow, Column: 1, Low: 1, High: 1},
		api.Query{Kind: api.QSum, Low: 1, High: 1, By: 1, Other: 1},
	)
}

// stateOf returns a state with the rows of a list.
func stateOf(t *testing.T, rows []api.Row) *store.State {
	t.Helper()
	s := store.New()
	for _, x := range rows {
		apply(t, s, api.Change{Table: x.Table, Key: x.Key, Has: true, New: x.V})
	}
	return s
}

func apply(t *testing.T, s *store.State, c api.Change) {
	t.Helper()
	if err := s.Apply(api.Record{Position: s.Position() + 1, Changes: []api.Change{c}}); err != api.OK {
		t.Fatalf("Apply(%+v) = %d", c, err)
	}
}

// of returns the result of a valid query on a state.
func of(t *testing.T, s *store.State, q api.Query) api.Result {
	t.Helper()
	got, err := eval.Of(s, q)
	if err != api.OK {
		t.Fatalf("Of(%+v) = %d", q, err)
	}
	return got
}
