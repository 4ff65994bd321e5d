package predicate

import (
	"slices"

	"cachetier/api"
)

// pair is a row of the scan of a join, and the row of the other table that is its partner.
type pair struct {
	left  api.Row
	right api.Row
}

// pairsOf returns the pairs that rows consist of, without a single row at their end.
func pairsOf(rows []api.Row) []pair {
	var pairs []pair
	for i := 1; i < len(rows); i += 2 {
		pairs = append(pairs, pair{left: rows[i-1], right: rows[i]})
	}
	return pairs
}

// rowsOf returns the rows of which pairs consist.
func rowsOf(pairs []pair) []api.Row {
	var rows []api.Row
	for _, p := range pairs {
		rows = append(rows, p.left, p.right)
	}
	return rows
}

func patchJoin(r *api.Result, e effect) bool {
	if e.query.Table == e.query.Other {
		return false
	}
	patchPairs := patchLeft
	if e.change.Table == e.query.Other {
		patchPairs = patchRight
	}
	pairs, known := patchPairs(pairsOf(r.Rows), e)
	r.Rows = rowsOf(pairs)
	return known
}

// patchRight patches pairs by a change of the other table. They do not tell which rows of the scan have waited for a partner that is new.
func patchRight(pairs []pair, e effect) ([]pair, bool) {
	if !e.before.exists {
		return nil, false
	}
	if !e.after.exists {
		return without(pairs, func(p pair) bool { return p.right.Key == e.change.Key }), true
	}
	for i := range pairs {
		if pairs[i].right.Key == e.change.Key {
			pairs[i].right = e.after.row
		}
	}
	return pairs, true
}

// patchLeft patches pairs by a change of the table of the scan. The partner of a row that is in the scan afterwards is known only from a pair that has it before; that there is none, only from the row itself, if it was in the scan with the same measure.
func patchLeft(pairs []pair, e effect) ([]pair, bool) {
	partner := slices.IndexFunc(pairs, func(p pair) bool { return p.right.Key == e.after.measure })
	others := without(pairs, func(p pair) bool { return p.left.Key == e.change.Key })
	if !e.after.inScan {
		return others, true
	}
	if partner < 0 {
		return others, e.before.inScan && e.before.measure == e.after.measure
	}
	added := pair{left: e.after.row, right: pairs[partner].right}
	return insert(others, added, func(p pair) bool { return e.precedes(p.left) }), true
}
