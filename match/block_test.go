package match

import (
	"math/rand/v2"
	"slices"
	"testing"

	"cachetier/api"
	"cachetier/row"
)

// covered returns the blocks that make up a range of values of the column 1 of the table 0.
func covered(t *testing.T, low, high int) []block {
	t.Helper()
	var out []block
	if !cover(0, 1, low, high, func(b block) bool {
		out = append(out, b)
		return true
	}) {
		t.Fatalf("cover(%d, %d) did not get through", low, high)
	}
	return out
}

// count returns how many blocks a row with a value is in.
func count(list []block, value int) int {
	n := 0
	for b := range blocksAround(api.Row{V: [3]int{value}}) {
		if slices.Contains(list, b) {
			n++
		}
	}
	return n
}

// P8.1: each value of a range is in exactly one of its blocks, and no other value is in any.
func TestCover(t *testing.T) {
	for low := -20; low <= 20; low++ {
		for high := low; high <= 20; high++ {
			list := covered(t, low, high)
			for value := -40; value <= 40; value++ {
				if n := count(list, value); n == 1 != (low <= value && value <= high) || n > 1 {
					t.Fatalf("%d is in %d blocks of %d to %d", value, n, low, high)
				}
			}
		}
	}
	r := rand.New(rand.NewPCG(8, 30))
	for range 3000 {
		a, b := randomValue(r), randomValue(r)
		low, high := min(a, b), max(a, b)
		list := covered(t, low, high)
		for _, value := range []int{low - 1, low, low + 1, high - 1, high, high + 1, low + r.IntN(high-low+1), randomValue(r), -api.MaxValue, api.MaxValue, -1, 0} {
			if n := count(list, value); n == 1 != (low <= value && value <= high) || n > 1 {
				t.Fatalf("%d is in %d blocks of %d to %d", value, n, low, high)
			}
		}
	}
}

func randomValue(r *rand.Rand) int {
	if r.IntN(2) == 0 {
		return r.IntN(2*api.MaxValue+1) - api.MaxValue
	}
	return []int{-1, 1}[r.IntN(2)]<<r.IntN(30) + r.IntN(3) - 1
}

// P8.1: a range has at most two blocks of each level, and all of them are of the levels that there are.
func TestFewBlocks(t *testing.T) {
	r := rand.New(rand.NewPCG(8, 31))
	ranges := [][2]int{{-api.MaxValue, api.MaxValue}, {-api.MaxValue, -1}, {0, api.MaxValue}, {1, api.MaxValue}, {-1, 0}, {-api.MaxValue, -api.MaxValue}, {api.MaxValue, api.MaxValue}, {1 - 1<<29, 1<<29 - 1}, {-1 << 29, 1<<29 - 1}}
	for range 3000 {
		a, b := randomValue(r), randomValue(r)
		ranges = append(ranges, [2]int{min(a, b), max(a, b)})
	}
	var used [2]bool
	for _, x := range ranges {
		var each [levels]int
		for _, b := range covered(t, x[0], x[1]) {
			if b.level < 0 || b.level >= levels || b.table != 0 || b.column != 1 {
				t.Fatalf("%v has the block %+v", x, b)
			}
			each[b.level]++
		}
		used[0], used[1] = used[0] || each[0] > 0, used[1] || each[levels-1] > 0
		if slices.Max(each[:]) > 2 {
			t.Errorf("%v has many blocks: %v", x, each)
		}
	}
	if used != [2]bool{true, true} {
		t.Errorf("blocks of the first and of the last level are used: %v", used)
	}
	if got := len(covered(t, 17, 17)); got != 1 {
		t.Errorf("one value has %d blocks", got)
	}
	if got := len(covered(t, -1<<20, 1<<20-1)); got != 2 {
		t.Errorf("two large blocks are %d", got)
	}
}

// A caller that takes only some of the blocks, or numbers, gets no more than these.
func TestEndEarly(t *testing.T) {
	x := New()
	join := api.Query{Kind: api.QJoin, Table: 1, Column: 2, Low: -5, High: 8, By: 1, Other: 1}
	for id := range 5 {
		if err := x.Add(id, join); err != api.OK {
			t.Fatal(err)
		}
	}
	c := api.Change{Table: 1, Key: 6, Had: true, Old: [3]int{0, 1, 0}, Has: true, New: [3]int{0, 2, 0}}
	r, _ := row.After(c)
	wantEarly(t, func(take func() bool) {
		for range blocksOf(join) {
			if !take() {
				break
			}
		}
	})
	wantEarly(t, func(take func() bool) {
		for range blocksAround(r) {
			if !take() {
				break
			}
		}
	})
	wantEarly(t, func(take func() bool) {
		for range x.readersOf(c) {
			if !take() {
				break
			}
		}
	})
}

// wantEarly requires that a loop which takes n elements and then ends, does so, for each n up to the number of all elements.
func wantEarly(t *testing.T, loop func(func() bool)) {
	t.Helper()
	all := 0
	loop(func() bool {
		all++
		return true
	})
	if all < 10 {
		t.Fatalf("only %d elements", all)
	}
	for most := 1; most <= all; most++ {
		n := 0
		loop(func() bool {
			n++
			return n < most
		})
		if n != most {
			t.Errorf("%d elements, want %d", n, most)
		}
	}
}

// Match looks only at queries that read a row of the change, however many others there are.
func TestCandidates(t *testing.T) {
	x := New()
	for id := range api.MaxQueries {
		q := api.Query{Kind: api.QRange, Table: id % 2, Column: 2, Low: 1000 * id, High: 1000*id + 999}
		if id%5 == 0 {
			q = api.Query{Kind: api.QJoin, Table: 2, Column: 2, Low: 1000 * id, High: 1000*id + 999, By: 1, Other: 3}
		}
		if err := x.Add(id, q); err != api.OK {
			t.Fatal(err)
		}
	}
	v := func(value int) [3]int { return [3]int{0, value, 0} }
	for _, e := range []struct {
		c    api.Change
		want []int
	}{
		{api.Change{Table: 1, Key: 1, Has: true, New: v(7500)}, []int{7}},
		{api.Change{Table: 0, Key: 1, Has: true, New: v(7500)}, nil},
		{api.Change{Table: 0, Key: 1, Has: true, New: v(8999)}, []int{8}},
		{api.Change{Table: 1, Key: 1, Had: true, Old: v(9999), Has: true, New: v(7000)}, []int{7, 9}},
		{api.Change{Table: 1, Key: 1, Had: true, Old: v(8000), Has: true, New: [3]int{8000, 10000, 8000}}, nil},
		{api.Change{Table: 2, Key: 1, Had: true, Old: v(10999)}, []int{10}},
		{api.Change{Table: 2, Key: 1, Had: true, Old: v(10999), Has: true, New: v(0)}, []int{0, 10}},
		{api.Change{Table: 2, Key: 1, Has: true, New: v(499999)}, nil},
		{api.Change{Key: 1}, nil},
	} {
		if got := candidates(x, e.c); !slices.Equal(got, e.want) {
			t.Errorf("%+v: Match looks at %v, want %v", e.c, got, e.want)
		}
	}
	if n := len(candidates(x, api.Change{Table: 3, Key: 1, Has: true})); n != api.MaxQueries/5 {
		t.Errorf("Match looks at %d queries for a change of the other table of %d joins", n, api.MaxQueries/5)
	}
}

// Match does not look at what reads zero rows when there is no row before or after a change.
func TestNoSide(t *testing.T) {
	x := New()
	for column := range api.Columns {
		if err := x.Add(column, api.Query{Kind: api.QRange, Column: column}); err != api.OK {
			t.Fatal(err)
		}
	}
	for _, c := range []api.Change{{Table: 1, Key: 1, Has: true}, {Table: 1, Key: 1, Had: true}, {Key: 1, Had: true, Old: [3]int{1, 1, 1}}, {Key: 1, Has: true, New: [3]int{1, 1, 1}}} {
		if got := candidates(x, c); len(got) > 0 {
			t.Errorf("%+v: Match looks at %v", c, got)
		}
	}
}

// candidates returns the numbers of the queries at which Match looks for a change, in ascending order.
func candidates(x *Index, c api.Change) []int {
	return slices.Compact(slices.Sorted(x.readersOf(c)))
}

// What is removed leaves nothing behind.
func TestNothingLeft(t *testing.T) {
	x := New()
	for round := range 3 {
		for id := range 100 {
			q := api.Query{Kind: api.QJoin, Table: id % 4, Column: id % 3, Low: -id, High: id * id, By: 1, Other: id % 3}
			if err := x.Add(id, q); err != api.OK {
				t.Fatal(err)
			}
		}
		for id := range 100 {
			if !x.Remove((id*37 + round) % 100) {
				t.Fatalf("Remove(%d)", id)
			}
		}
		if len(x.queries) != 0 || len(x.readers) != 0 {
			t.Errorf("%d queries and %d blocks are left", len(x.queries), len(x.readers))
		}
	}
}
