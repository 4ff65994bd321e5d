package predicate_test

import (
	"math"
	"math/rand/v2"
	"slices"
	"testing"

	"cachetier/api"
	"cachetier/eval"
	"cachetier/query"
	"cachetier/row"
	"cachetier/store"
)

// The references below follow the chapter in another way than the package: they compare the lists of the rows that are in the scan before and after a change, each of which has at most one row.

func column(r api.Row, c int) int { return []int{r.Key, r.V[0], r.V[1], r.V[2]}[c] }

func inScan(q api.Query, r api.Row) bool {
	return r.Table == q.Table && q.Low <= column(r, q.Column) && column(r, q.Column) <= q.High
}

// scans returns the rows of the scan before and after c.
func scans(q api.Query, c api.Change) (before, after []api.Row) {
	if old := (api.Row{Table: c.Table, Key: c.Key, V: c.Old}); c.Had && inScan(q, old) {
		before = append(before, old)
	}
	if now := (api.Row{Table: c.Table, Key: c.Key, V: c.New}); c.Has && inScan(q, now) {
		after = append(after, now)
	}
	return before, after
}

func measures(q api.Query, rows []api.Row) []int {
	var out []int
	for _, r := range rows {
		out = append(out, column(r, q.By))
	}
	return out
}

func sum(list []int) int {
	out := uint64(0)
	for _, n := range list {
		out += uint64(n)
	}
	return int(out)
}

func refTouches(q api.Query, c api.Change) bool {
	if !query.Valid(q) || !row.ValidChange(c) {
		return false
	}
	before, after := scans(q, c)
	switch q.Kind {
	case api.QCount:
		return len(before) != len(after)
	case api.QSum:
		return sum(measures(q, before)) != sum(measures(q, after))
	case api.QMin, api.QMax:
		return !slices.Equal(measures(q, before), measures(q, after))
	}
	return len(before)+len(after) > 0 || q.Kind == api.QJoin && c.Table == q.Other
}

func refPatch(q api.Query, r api.Result, c api.Change) (api.Result, bool) {
	if !refTouches(q, c) {
		return r, true
	}
	before, after := scans(q, c)
	switch q.Kind {
	case api.QRow, api.QRange:
		var kept [][]api.Row
		for _, x := range r.Rows {
			if x.Table != c.Table || x.Key != c.Key {
				kept = append(kept, []api.Row{x})
			}
		}
		if len(after) == 1 {
			kept = placed(q, kept, after)
		}
		return api.Result{Rows: slices.Concat(kept...), Value: r.Value, Found: r.Found}, true
	case api.QCount:
		r.Value = sum([]int{r.Value, len(after), -len(before)})
		return r, true
	case api.QSum:
		r.Value = sum([]int{r.Value, sum(measures(q, after)), -sum(measures(q, before))})
		return r, true
	case api.QMin, api.QMax:
		return refExtreme(q, r, measures(q, before), measures(q, after))
	}
	pairs, ok := refJoin(q, slices.Collect(slices.Chunk(r.Rows[:len(r.Rows)/2*2], 2)), c, before, after)
	if !ok {
		return api.Result{}, false
	}
	return api.Result{Rows: slices.Concat(pairs...), Value: r.Value, Found: r.Found}, true
}

// placed inserts a row, or a pair, into a list of them: the place is found from the front.
func placed(q api.Query, list [][]api.Row, added []api.Row) [][]api.Row {
	var out [][]api.Row
	for i, x := range list {
		value, of := column(x[0], q.Column), column(added[0], q.Column)
		if value > of || value == of && x[0].Key > added[0].Key {
			return append(append(out, added), list[i:]...)
		}
		out = append(out, x)
	}
	return append(out, added)
}

// refExtreme asks which of the values before, of which one may be gone, and after comes first, and whether that is certain.
func refExtreme(q api.Query, r api.Result, before, after []int) (api.Result, bool) {
	reaches := func(a, b int) bool { return q.Kind == api.QMin && a <= b || q.Kind == api.QMax && a >= b }
	lost := len(before) == 1 && (!r.Found || reaches(before[0], r.Value))
	regained := len(after) == 1 && r.Found && reaches(after[0], r.Value)
	switch {
	case lost && !regained:
		return api.Result{}, false
	case regained, !r.Found && len(after) == 1:
		r.Value, r.Found = after[0], true
	}
	return r, true
}

func refJoin(q api.Query, pairs [][]api.Row, c api.Change, before, after []api.Row) ([][]api.Row, bool) {
	var kept [][]api.Row
	switch {
	case q.Table == q.Other, c.Table == q.Other && !c.Had:
		return nil, false
	case c.Table == q.Other:
		for _, p := range pairs {
			if p[1].Key != c.Key {
				kept = append(kept, p)
			} else if c.Has {
				kept = append(kept, []api.Row{p[0], {Table: c.Table, Key: c.Key, V: c.New}})
			}
		}
		return kept, true
	}
	var partners []api.Row
	for _, p := range pairs {
		if p[0].Key != c.Key {
			kept = append(kept, p)
		}
		if len(after) == 1 && p[1].Key == column(after[0], q.By) {
			partners = append(partners, p[1])
		}
	}
	switch {
	case len(after) == 0:
		return kept, true
	case len(partners) > 0:
		return placed(q, kept, []api.Row{after[0], partners[0]}), true
	}
	return kept, slices.Equal(measures(q, before), measures(q, after))
}

func refApply(q api.Query, r api.Result, changes []api.Change) (api.Result, bool, bool) {
	touched := false
	for _, c := range changes {
		next, ok := refPatch(q, r, c)
		if !ok {
			return api.Result{}, true, false
		}
		r, touched = next, touched || refTouches(q, c)
	}
	return r, touched, true
}

func equal(a, b api.Result) bool {
	return slices.Equal(a.Rows, b.Rows) && a.Value == b.Value && a.Found == b.Found
}

func source(n uint64) *rand.Rand { return rand.New(rand.NewPCG(7, n)) }

func pick(r *rand.Rand, list ...int) int { return list[r.IntN(len(list))] }

// someValue returns a value that is often that of another row, or a key, and sometimes one at a bound.
func someValue(r *rand.Rand) int {
	if r.IntN(30) > 0 {
		return r.IntN(7) - 1
	}
	return pick(r, 1000000, 1000000000, -1000000000)
}

func someValues(r *rand.Rand) [3]int { return [3]int{someValue(r), someValue(r), someValue(r)} }

// randomQuery returns a valid query of a kind, mostly of the tables 0 and 1.
func randomQuery(r *rand.Rand, kind int) api.Query {
	q := api.Query{Kind: kind, Table: pick(r, 0, 0, 1, 1, 3)}
	if kind == api.QRow {
		q.Low = pick(r, 1+r.IntN(6), 1+r.IntN(6), 1000000)
		q.High = q.Low
		return q
	}
	a, b := someValue(r), someValue(r)
	q.Column, q.Low, q.High = r.IntN(4), min(a, b), max(a, b)
	if kind >= api.QSum {
		q.By = 1 + r.IntN(3)
	}
	if kind == api.QJoin {
		q.Other = pick(r, 0, 1, 1-q.Table&1, 1-q.Table&1, 2)
	}
	return q
}

// randomChange returns a valid change, mostly of the tables 0 and 1.
func randomChange(r *rand.Rand) api.Change {
	for {
		c := api.Change{Table: pick(r, 0, 0, 0, 1, 1, 1, 2, 3), Key: pick(r, 1+r.IntN(6), 1+r.IntN(6), 1000000), Had: r.IntN(3) > 0, Has: r.IntN(3) > 0}
		if c.Had {
			c.Old = someValues(r)
		}
		if c.Has {
			c.New = someValues(r)
		}
		if c.Had && c.Has && r.IntN(2) == 0 { // a change of one column only
			c.New = c.Old
			c.New[r.IntN(3)] = someValue(r)
		}
		if row.ValidChange(c) {
			return c
		}
	}
}

// damage makes a change one that is often not valid.
func damage(r *rand.Rand, c api.Change) api.Change {
	switch r.IntN(6) {
	case 0:
		c.Table = pick(r, -1, 4, math.MinInt, math.MaxInt)
	case 1:
		c.Key = pick(r, 0, -1, 1000001, math.MinInt, math.MaxInt)
	case 2:
		c.Had = !c.Had
	case 3:
		c.Has = !c.Has
	case 4:
		c.New = c.Old
	default:
		c.Old[r.IntN(3)] = pick(r, 1000000001, -1000000001, math.MinInt, math.MaxInt)
	}
	return c
}

// wildRows returns n rows in any order, which may be the same, and many of which are not valid.
func wildRows(r *rand.Rand, n int) []api.Row {
	out := make([]api.Row, 0, n)
	for range n {
		x := api.Row{Table: pick(r, 0, 0, 1, 1, 2, 3, -1), Key: r.IntN(7), V: someValues(r)}
		if r.IntN(6) == 0 {
			x.Key = pick(r, 0, -1, 1000000, 1000001, math.MaxInt, math.MinInt)
			x.V[r.IntN(3)] = pick(r, math.MaxInt, math.MinInt, math.MaxInt-1)
		}
		out = append(out, x)
	}
	return out
}

// wildResult returns a result that need not be one of any query.
func wildResult(r *rand.Rand) api.Result {
	value := pick(r, someValue(r), someValue(r), someValue(r), math.MaxInt, math.MinInt, math.MaxInt-1, math.MinInt+1)
	return api.Result{Rows: wildRows(r, r.IntN(14)), Value: value, Found: r.IntN(3) > 0}
}

// randomInvalid returns n queries that are not valid because of one number.
func randomInvalid(r *rand.Rand, n int) []api.Query {
	var out []api.Query
	for len(out) < n {
		q := randomQuery(r, 1+r.IntN(7))
		numbers := []*int{&q.Kind, &q.Table, &q.Column, &q.Low, &q.High, &q.By, &q.Other}
		*numbers[r.IntN(7)] = pick(r, r.IntN(10)-1, r.IntN(10)-1, 1000000001, -1000000001, math.MinInt, math.MaxInt)
		if !query.Valid(q) {
			out = append(out, q)
		}
	}
	return out
}

// randomRecord returns a record of up to n changes that can be applied to a state, if it has any.
func randomRecord(r *rand.Rand, s *store.State, n int) api.Record {
	x := api.Record{Position: s.Position() + 1}
	for range 1 + r.IntN(n) {
		c := randomChange(r)
		old, had := s.Get(c.Table, c.Key)
		c.Had, c.Old = had, old.V
		if had && c.Has && r.IntN(2) == 0 {
			c.New = c.Old
			c.New[r.IntN(3)] = someValue(r)
		}
		taken := slices.ContainsFunc(x.Changes, func(y api.Change) bool { return y.Table == c.Table && y.Key == c.Key })
		if row.ValidChange(c) && !taken {
			x.Changes = append(x.Changes, c)
		}
	}
	slices.SortFunc(x.Changes, func(a, b api.Change) int { return (a.Table-b.Table)*10000000 + a.Key - b.Key })
	return x
}

// after returns a copy of s to which x has been applied.
func after(t *testing.T, s *store.State, x api.Record) *store.State {
	t.Helper()
	next := s.Clone()
	if err := next.Apply(x); err != api.OK {
		t.Fatalf("Apply(%+v) = %d", x, err)
	}
	return next
}

// of returns the result of a valid query on a state.
func of(t *testing.T, s *store.State, q api.Query) api.Result {
	t.Helper()
	got, err := eval.Of(s, q)
	if err != api.OK {
		t.Fatalf("Of(%+v) = %d", q, err)
	}
	return got
}

// grown returns a state after n records, of which some have many changes.
func grown(t *testing.T, r *rand.Rand, n int) *store.State {
	t.Helper()
	s := store.New()
	for range n {
		if x := randomRecord(r, s, 8); len(x.Changes) > 0 {
			s = after(t, s, x)
		}
	}
	return s
}
