package predicate

import (
	"cmp"
	"slices"

	"cachetier/api"
	"cachetier/row"
)

// patch returns the result of q after c, which touches q, where r is the one before c, or a zero result and false if r does not tell it. It may change the rows of r.
func patch(q api.Query, r api.Result, c api.Change) (api.Result, bool) {
	if !patchers()[q.Kind](&r, effectOf(q, c)) {
		return api.Result{}, false
	}
	return r, true
}

// patchers returns, for each kind of queries, what changes its results by a change that touches them, and reports whether they tell what they become.
func patchers() map[int]func(*api.Result, effect) bool {
	return map[int]func(*api.Result, effect) bool{
		api.QRow:   patchRows,
		api.QRange: patchRows,
		api.QCount: patchCount,
		api.QSum:   patchSum,
		api.QMin: func(r *api.Result, e effect) bool {
			return patchExtreme(r, e, cmp.Compare[int])
		},
		api.QMax: func(r *api.Result, e effect) bool {
			return patchExtreme(r, e, func(a int, b int) int { return cmp.Compare(b, a) })
		},
		api.QJoin: patchJoin,
	}
}

func patchRows(r *api.Result, e effect) bool {
	r.Rows = without(r.Rows, func(old api.Row) bool {
		return old.Table == e.change.Table && old.Key == e.change.Key
	})
	if e.after.inScan {
		r.Rows = insert(r.Rows, e.after.row, e.precedes)
	}
	return true
}

func patchCount(r *api.Result, e effect) bool {
	if e.after.inScan {
		r.Value++
	}
	if e.before.inScan {
		r.Value--
	}
	return true
}

func patchSum(r *api.Result, e effect) bool {
	r.Value += e.after.measure - e.before.measure
	return true
}

// patchExtreme patches the measure that comes first in an order. If its row goes, or goes back in the order, the result does not tell which measure is next.
func patchExtreme(r *api.Result, e effect, order func(int, int) int) bool {
	if e.before.inScan && (!r.Found || order(e.before.measure, r.Value) <= 0) {
		if !e.after.inScan || !r.Found || order(e.after.measure, r.Value) > 0 {
			return false
		}
		r.Value = e.after.measure
		return true
	}
	if e.after.inScan && (!r.Found || order(e.after.measure, r.Value) < 0) {
		r.Value, r.Found = e.after.measure, true
	}
	return true
}

// precedes reports whether the row after the change comes before another one in the scan.
func (e effect) precedes(other api.Row) bool {
	value := row.Value(e.after.row, e.query.Column)
	return cmp.Or(cmp.Compare(value, row.Value(other, e.query.Column)), cmp.Compare(e.after.row.Key, other.Key)) < 0
}

// without returns the elements of a list that are not gone, in new memory.
func without[T any](list []T, gone func(T) bool) []T {
	var kept []T
	for _, x := range list {
		if !gone(x) {
			kept = append(kept, x)
		}
	}
	return kept
}

// insert inserts x into a list ahead of the first element that it precedes, or at the end.
func insert[T any](list []T, x T, precedes func(T) bool) []T {
	place := slices.IndexFunc(list, precedes)
	if place < 0 {
		place = len(list)
	}
	return slices.Insert(list, place, x)
}
