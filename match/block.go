package match

import (
	"iter"

	"cachetier/api"
	"cachetier/query"
	"cachetier/row"
)

// block is the rows of a table whose values of a column are part after level bits are cut off: these values follow each other. Two blocks of one level, of which the first has an even part, make up a block of the next level.
type block struct {
	table  int
	column int
	level  int
	part   int
}

// levels is the number of levels on which a range of valid values can have a block: all blocks of level 30 have values beyond api.MaxValue, too.
const levels = 30

// blocksOf yields the blocks of the rows that a valid query reads: those of its scan, and for a join all those of the other table. A join of a table with itself may read some blocks twice.
func blocksOf(q api.Query) iter.Seq[block] {
	return func(yield func(block) bool) {
		table, column, low, high := query.Scan(q)
		if cover(table, column, low, high, yield) && q.Kind == api.QJoin {
			cover(q.Other, 0, 1, api.MaxKey, yield)
		}
	}
}

// cover yields blocks, as large as possible: each row with a value from low to high is in exactly one of them, and no other row is in any. It reports whether it got through.
func cover(table int, column int, low int, high int, yield func(block) bool) bool {
	for level := 0; low <= high; level++ {
		if low&1 == 1 { // the block at the lower end is the second one of a larger block, which begins too early
			if !yield(block{table: table, column: column, level: level, part: low}) {
				return false
			}
			low++
		}
		if high&1 == 0 { // the block at the upper end is the first one of a larger block, which ends too late
			if !yield(block{table: table, column: column, level: level, part: high}) {
				return false
			}
			high--
		}
		low, high = low>>1, high>>1
	}
	return true
}

// blocksAround yields the blocks that r is in: one of each level for each column.
func blocksAround(r api.Row) iter.Seq[block] {
	return func(yield func(block) bool) {
		for column := range api.Columns {
			value := row.Value(r, column)
			for level := range levels {
				if !yield(block{table: r.Table, column: column, level: level, part: value >> level}) {
					return
				}
			}
		}
	}
}
