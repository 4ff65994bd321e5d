package store_test

import (
	"math/rand/v2"
	"slices"
	"testing"

	"cachetier/api"
	"cachetier/row"
	"cachetier/store"
)

// reference is a state that keeps its rows in one list, sorted by table and key, and applies a record to a copy of this list, change by change.
type reference struct {
	rows     []api.Row
	position int
}

func column(r api.Row, c int) int { return []int{r.Key, r.V[0], r.V[1], r.V[2]}[c] }

func byPlace(a, b api.Row) int { return (a.Table*10000000 + a.Key) - (b.Table*10000000 + b.Key) }

func (m *reference) find(table, key int) int {
	return slices.IndexFunc(m.rows, func(r api.Row) bool { return r.Table == table && r.Key == key })
}

func (m *reference) apply(r api.Record) api.Errno {
	if !row.ValidRecord(r) || r.Position-m.position != 1 {
		return api.ErrStore
	}
	next := reference{rows: slices.Clone(m.rows), position: r.Position}
	for _, c := range r.Changes {
		i := next.find(c.Table, c.Key)
		if c.Had != (i >= 0) {
			return api.ErrStore
		}
		if c.Had {
			if next.rows[i].V != c.Old {
				return api.ErrStore
			}
			next.rows = slices.Delete(next.rows, i, i+1)
		}
		if c.Has {
			next.rows = append(next.rows, api.Row{Table: c.Table, Key: c.Key, V: c.New})
		}
	}
	if len(next.rows) > 2000 {
		return api.ErrStore
	}
	slices.SortFunc(next.rows, byPlace)
	*m = next
	return api.OK
}

func (m *reference) get(table, key int) (api.Row, bool) {
	if i := m.find(table, key); i >= 0 {
		return m.rows[i], true
	}
	return api.Row{}, false
}

// between takes the rows in the order of their keys, and puts each one behind all that have no greater value.
func (m *reference) between(table, col, low, high int) []api.Row {
	var out []api.Row
	if col < 0 || col > 3 {
		return nil
	}
	for _, r := range m.rows {
		v := column(r, col)
		if r.Table != table || v < low || v > high {
			continue
		}
		i := len(out)
		for i > 0 && column(out[i-1], col) > v {
			i--
		}
		out = slices.Insert(out, i, r)
	}
	return out
}

func source(n uint64) *rand.Rand { return rand.New(rand.NewPCG(4, n)) }

func pick(r *rand.Rand, list ...int) int { return list[r.IntN(len(list))] }

// values returns small values, which are often equal, and values of any size.
func values(r *rand.Rand) [3]int {
	var v [3]int
	for i := range v {
		v[i] = pick(r, 0, 1, r.IntN(7)-3, r.IntN(2000000001)-1000000000, 1000000000, -1000000000)
	}
	return v
}

// randomRecord returns a record that can be applied to m, if there is a next position; its keys are few, so that rows are often changed.
func (m *reference) randomRecord(r *rand.Rand) api.Record {
	x := api.Record{Position: m.position + 1}
	for range 1 + r.IntN(8) {
		c := api.Change{Table: r.IntN(4), Key: pick(r, 1, 2, 1+r.IntN(9), 1000000), Has: r.IntN(3) > 0}
		if c.Has {
			c.New = values(r)
		}
		old, had := m.get(c.Table, c.Key)
		c.Had, c.Old = had, old.V
		if row.ValidChange(c) {
			x.Changes = append(x.Changes, c)
		}
	}
	slices.SortFunc(x.Changes, func(a, b api.Change) int { return compare(a, b) })
	x.Changes = slices.CompactFunc(x.Changes, func(a, b api.Change) bool { return compare(a, b) == 0 })
	if len(x.Changes) == 0 {
		return m.randomRecord(r)
	}
	return x
}

func compare(a, b api.Change) int { return (a.Table*10000000 + a.Key) - (b.Table*10000000 + b.Key) }

// randomLog returns n records that can be applied one after the other.
func randomLog(r *rand.Rand, n int) []api.Record {
	var m reference
	var log []api.Record
	for range n {
		x := m.randomRecord(r)
		if m.apply(x) != api.OK {
			panic("the reference refuses its own record")
		}
		log = append(log, x)
	}
	return log
}

func copied(x api.Record) api.Record {
	return api.Record{Position: x.Position, Changes: slices.Clone(x.Changes)}
}

// damaged returns records that differ from x in one thing.
func damaged(r *rand.Rand, x api.Record) []api.Record {
	var list []api.Record
	vary := func(change func(*api.Record)) {
		y := copied(x)
		change(&y)
		list = append(list, y)
	}
	for _, p := range []int{x.Position - 1, x.Position + 1, x.Position + 2, 0, 1, -1, -x.Position, 10000, 10001} {
		vary(func(y *api.Record) { y.Position = p })
	}
	vary(func(y *api.Record) { y.Changes = nil })
	vary(func(y *api.Record) { y.Changes = append(y.Changes, y.Changes[0]) })
	vary(func(y *api.Record) { slices.Reverse(y.Changes) })
	i := r.IntN(len(x.Changes))
	vary(func(y *api.Record) { y.Changes = slices.Delete(y.Changes, i, i+1) })
	edit := func(change func(*api.Change)) { vary(func(y *api.Record) { change(&y.Changes[i]) }) }
	edit(func(c *api.Change) { c.Had = !c.Had })
	edit(func(c *api.Change) { c.Has = !c.Has })
	edit(func(c *api.Change) { c.Had, c.Old = false, [3]int{} })
	edit(func(c *api.Change) { c.Had, c.Old = true, values(r) })
	edit(func(c *api.Change) { c.Has, c.New = true, values(r) })
	edit(func(c *api.Change) { c.Had, c.Has, c.Old, c.New = c.Has, c.Had, c.New, c.Old })
	edit(func(c *api.Change) { c.Table, c.Key = r.IntN(4), 1+r.IntN(9) })
	edit(func(c *api.Change) { c.Table = pick(r, -1, 4) })
	edit(func(c *api.Change) { c.Key = pick(r, -1, 0, 1000001) })
	for k := range 3 {
		edit(func(c *api.Change) { c.Old[k] += pick(r, -1, 1) })
		edit(func(c *api.Change) { c.New[k] = pick(r, -1000000001, 1000000001, c.New[k]+1) })
	}
	return list
}

// wantState compares everything that s tells with the reference.
func wantState(t *testing.T, s *store.State, m *reference) {
	t.Helper()
	if s.Position() != m.position || s.Len() != len(m.rows) {
		t.Fatalf("position %d with %d rows; want %d with %d", s.Position(), s.Len(), m.position, len(m.rows))
	}
	for table := -1; table <= 4; table++ {
		want := m.between(table, 0, 0, 2000000)
		if got := s.Rows(table); !slices.Equal(got, want) {
			t.Fatalf("Rows(%d) = %v; want %v", table, got, want)
		}
		for _, key := range []int{-1, 0, 1, 2, 3, 4, 5, 6, 7, 8, 9, 10, 999999, 1000000, 1000001} {
			wantRow(t, s, m, table, key)
		}
	}
	for _, r := range m.rows {
		wantRow(t, s, m, r.Table, r.Key)
	}
}

func wantRow(t *testing.T, s *store.State, m *reference, table, key int) {
	t.Helper()
	want, wantOK := m.get(table, key)
	if got, ok := s.Get(table, key); got != want || ok != wantOK {
		t.Fatalf("Get(%d, %d) = %v, %t; want %v, %t", table, key, got, ok, want, wantOK)
	}
}
