package row_test

import (
	"math"
	"slices"
	"strings"
	"testing"
	"unsafe"

	"cachetier/api"
	"cachetier/row"
)

var some = api.Row{Table: 1, Key: 5, V: [3]int{7, -3, 9}}

func put(table, key int) api.Change {
	return api.Change{Table: table, Key: key, Has: true, New: [3]int{7, -3, 9}}
}

func puts(n int) []api.Change {
	var list []api.Change
	for i := range n {
		list = append(list, put(1, 5+i))
	}
	return list
}

// with returns r with the number n as its Table, Key, or an element of V.
func with(r api.Row, field, n int) api.Row {
	switch field {
	case 0:
		r.Table = n
	case 1:
		r.Key = n
	default:
		r.V[field-2] = n
	}
	return r
}

// P3.1: the bounds of every field.
func TestValidBounds(t *testing.T) {
	bounds := [5][2]int{{0, 3}, {1, 1000000}, {-1000000000, 1000000000}, {-1000000000, 1000000000}, {-1000000000, 1000000000}}
	for field, b := range bounds {
		for _, n := range []int{b[0], b[0] + 1, b[1] - 1, b[1]} {
			if r := with(some, field, n); !row.Valid(r) {
				t.Errorf("Valid(%v) = false", r)
			}
		}
		for _, n := range []int{b[0] - 1, b[0] - 2, b[1] + 1, b[1] + 2, math.MinInt, math.MaxInt} {
			if r := with(some, field, n); row.Valid(r) {
				t.Errorf("Valid(%v) = true", r)
			}
		}
	}
	if row.Valid(api.Row{}) {
		t.Error("a zero row is valid")
	}
}

// P3.1
func TestValidReference(t *testing.T) {
	r := source()
	for range 20000 {
		x := randomRow(r)
		if !row.Valid(x) {
			t.Fatalf("Valid(%v) = false", x)
		}
		x = with(x, r.IntN(5), pick(r, extremes()...))
		if row.Valid(x) != refValid(x) {
			t.Fatalf("Valid(%v) = %t", x, row.Valid(x))
		}
	}
}

// P3.1: every column, columns that do not exist, and rows that are not valid.
func TestValue(t *testing.T) {
	r := api.Row{Table: 9, Key: -6, V: [3]int{math.MinInt, 8, math.MaxInt}}
	for column, want := range []int{-6, math.MinInt, 8, math.MaxInt} {
		if got := row.Value(r, column); got != want {
			t.Errorf("Value(%v, %d) = %d, want %d", r, column, got, want)
		}
	}
	for _, column := range []int{-1, -2, 4, 5, math.MinInt, math.MaxInt} {
		if got := row.Value(r, column); got != 0 {
			t.Errorf("Value(%v, %d) = %d, want 0", r, column, got)
		}
	}
	for column, want := range []int{5, 7, -3, 9, 0} {
		if got := row.Value(some, column); got != want {
			t.Errorf("Value(%v, %d) = %d, want %d", some, column, got, want)
		}
	}
}

// P3.1: what makes a change valid or not.
func TestValidChange(t *testing.T) {
	v, w, zero := [3]int{1, 2, 3}, [3]int{1, 2, 4}, [3]int{}
	for _, x := range []struct {
		name string
		c    api.Change
		want bool
	}{
		{"added", api.Change{Key: 5, Has: true, New: v}, true},
		{"added with zeros", api.Change{Key: 5, Has: true}, true},
		{"removed", api.Change{Key: 5, Had: true, Old: v}, true},
		{"removed with zeros", api.Change{Key: 5, Had: true}, true},
		{"changed", api.Change{Key: 5, Had: true, Old: v, Has: true, New: w}, true},
		{"changed from zeros", api.Change{Key: 5, Had: true, Has: true, New: w}, true},
		{"changed to zeros", api.Change{Key: 5, Had: true, Old: v, Has: true}, true},
		{"last table and key", api.Change{Table: 3, Key: 1000000, Has: true, New: v}, true},
		{"neither", api.Change{Key: 5}, false},
		{"neither, with values", api.Change{Key: 5, Old: v, New: w}, false},
		{"equal", api.Change{Key: 5, Had: true, Old: v, Has: true, New: v}, false},
		{"equal zeros", api.Change{Key: 5, Had: true, Old: zero, Has: true, New: zero}, false},
		{"removed, with new values", api.Change{Key: 5, Had: true, Old: v, New: w}, false},
		{"removed, with the same new values", api.Change{Key: 5, Had: true, Old: v, New: v}, false},
		{"added, with old values", api.Change{Key: 5, Old: v, Has: true, New: w}, false},
		{"added, with one old value", api.Change{Key: 5, Old: [3]int{0, 0, 1}, Has: true, New: w}, false},
		{"no key", api.Change{Has: true, New: w}, false},
		{"key too great", api.Change{Key: 1000001, Had: true, Old: w}, false},
		{"table too great", api.Change{Table: 4, Key: 5, Has: true}, false},
		{"negative table", api.Change{Table: -1, Key: 5, Had: true}, false},
		{"new value too great", api.Change{Key: 5, Has: true, New: [3]int{1000000001}}, false},
		{"new value too small", api.Change{Key: 5, Had: true, Old: v, Has: true, New: [3]int{0, -1000000001}}, false},
		{"old value too great", api.Change{Key: 5, Had: true, Old: [3]int{0, 0, 1000000001}}, false},
		{"old value too small", api.Change{Key: 5, Had: true, Old: [3]int{-1000000001}, Has: true, New: v}, false},
	} {
		if got := row.ValidChange(x.c); got != x.want {
			t.Errorf("%s: ValidChange(%v) = %t", x.name, x.c, got)
		}
		if refValidChange(x.c) != x.want {
			t.Errorf("%s: the reference is wrong", x.name)
		}
	}
}

// damaged returns changes that differ from c in one field.
func damaged(c api.Change) []api.Change {
	list := []api.Change{}
	vary := func(change func(*api.Change)) {
		d := c
		change(&d)
		list = append(list, d)
	}
	vary(func(d *api.Change) { d.Had = !d.Had })
	vary(func(d *api.Change) { d.Has = !d.Has })
	vary(func(d *api.Change) { d.Old = d.New })
	vary(func(d *api.Change) { d.New = d.Old })
	for _, n := range extremes() {
		vary(func(d *api.Change) { d.Table = n })
		vary(func(d *api.Change) { d.Key = n })
		for i := range 3 {
			vary(func(d *api.Change) { d.Old[i] = n })
			vary(func(d *api.Change) { d.New[i] = n })
		}
	}
	return list
}

// P3.1
func TestValidChangeReference(t *testing.T) {
	r := source()
	for range 300 {
		c := randomChange(r)
		if !row.ValidChange(c) {
			t.Fatalf("ValidChange(%v) = false", c)
		}
		for _, d := range damaged(c) {
			if row.ValidChange(d) != refValidChange(d) {
				t.Fatalf("ValidChange(%v) = %t", d, row.ValidChange(d))
			}
		}
	}
}

// P3.1: Before and After of any change, valid or not.
func TestBeforeAndAfter(t *testing.T) {
	r := source()
	for range 300 {
		c := randomChange(r)
		for _, d := range append(damaged(c), c, api.Change{}) {
			wantSide(t, "Before", d, row.Before, d.Had, d.Old)
			wantSide(t, "After", d, row.After, d.Has, d.New)
		}
	}
}

func wantSide(t *testing.T, name string, c api.Change, side func(api.Change) (api.Row, bool), exists bool, v [3]int) {
	t.Helper()
	want := api.Row{}
	if exists {
		want = api.Row{Table: c.Table, Key: c.Key, V: v}
	}
	if got, ok := side(c); got != want || ok != exists {
		t.Fatalf("%s(%v) = %v, %t; want %v, %t", name, c, got, ok, want, exists)
	}
}

// P3.4
func TestSidesOfValidChanges(t *testing.T) {
	r := source()
	for range 5000 {
		c := randomChange(r)
		old, had := row.Before(c)
		new, has := row.After(c)
		if !had && !has {
			t.Fatalf("%v has no row", c)
		}
		if old == new {
			t.Fatalf("the rows of %v are equal", c)
		}
		for _, x := range []struct {
			r      api.Row
			exists bool
		}{{old, had}, {new, has}} {
			if x.exists && (!row.Valid(x.r) || x.r.Table != c.Table || x.r.Key != c.Key) {
				t.Fatalf("%v has the row %v", c, x.r)
			}
		}
	}
}

// P3.4: the change is valid only if its rows are such.
func TestSidesDecideValidity(t *testing.T) {
	r := source()
	for range 200 {
		for _, c := range damaged(randomChange(r)) {
			old, had := row.Before(c)
			new, has := row.After(c)
			if row.ValidChange(c) && (old == new || had && !row.Valid(old) || has && !row.Valid(new)) {
				t.Fatalf("ValidChange(%v) = true", c)
			}
		}
	}
}

// P3.1: positions, numbers of changes, and their order.
func TestValidRecord(t *testing.T) {
	for _, x := range []struct {
		name string
		r    api.Record
		want bool
	}{
		{"one change", api.Record{Position: 1, Changes: puts(1)}, true},
		{"most changes, last position", api.Record{Position: 10000, Changes: puts(8)}, true},
		{"by table before key", api.Record{Position: 4, Changes: []api.Change{put(0, 9), put(1, 3), put(1, 4), put(3, 1)}}, true},
		{"no changes", api.Record{Position: 4}, false},
		{"empty changes", api.Record{Position: 4, Changes: []api.Change{}}, false},
		{"too many changes", api.Record{Position: 4, Changes: puts(9)}, false},
		{"far too many changes", api.Record{Position: 4, Changes: puts(5000)}, false},
		{"position 0", api.Record{Changes: puts(1)}, false},
		{"negative position", api.Record{Position: -1, Changes: puts(1)}, false},
		{"position too great", api.Record{Position: 10001, Changes: puts(1)}, false},
		{"least position", api.Record{Position: math.MinInt, Changes: puts(1)}, false},
		{"greatest position", api.Record{Position: math.MaxInt, Changes: puts(1)}, false},
		{"tables descend", api.Record{Position: 4, Changes: []api.Change{put(1, 3), put(0, 9)}}, false},
		{"keys descend", api.Record{Position: 4, Changes: []api.Change{put(1, 4), put(1, 3)}}, false},
		{"the same row twice", api.Record{Position: 4, Changes: []api.Change{put(1, 3), put(1, 3)}}, false},
		{"the same row twice, otherwise", api.Record{Position: 4, Changes: []api.Change{put(1, 3), {Table: 1, Key: 3, Had: true}}}, false},
		{"the last one descends", api.Record{Position: 4, Changes: append(puts(7), put(1, 4))}, false},
		{"the first one is invalid", api.Record{Position: 4, Changes: append([]api.Change{{Key: 5}}, puts(2)...)}, false},
		{"the last one is invalid", api.Record{Position: 4, Changes: append(puts(2), api.Change{Table: 2, Key: 5})}, false},
	} {
		if got := row.ValidRecord(x.r); got != x.want {
			t.Errorf("%s: ValidRecord = %t", x.name, got)
		}
		if refValidRecord(x.r) != x.want {
			t.Errorf("%s: the reference is wrong", x.name)
		}
	}
}

// P3.1
func TestValidRecordReference(t *testing.T) {
	r := source()
	for range 200 {
		x := randomRecord(r)
		if !row.ValidRecord(x) {
			t.Fatalf("ValidRecord(%v) = false", x)
		}
		i := r.IntN(len(x.Changes))
		for _, d := range damaged(x.Changes[i]) {
			y := api.Record{Position: x.Position, Changes: slices.Clone(x.Changes)}
			y.Changes[i] = d
			if row.ValidRecord(y) != refValidRecord(y) {
				t.Fatalf("ValidRecord(%v) = %t", y, row.ValidRecord(y))
			}
		}
		slices.Reverse(x.Changes)
		if row.ValidRecord(x) != (len(x.Changes) == 1) {
			t.Fatalf("ValidRecord(%v) in descending order", x)
		}
	}
}

// P3.1: records that are equal, and records that differ in one thing; they need not be valid.
func TestSame(t *testing.T) {
	r := source()
	for range 100 {
		x := randomRecord(r)
		y := api.Record{Position: x.Position, Changes: slices.Clone(x.Changes)}
		if !row.Same(x, y) || !row.Same(x, x) {
			t.Fatalf("Same of %v and itself is false", x)
		}
		others := []api.Record{{}, {Position: x.Position}, {Changes: x.Changes},
			{Position: x.Position + 1, Changes: x.Changes}, {Position: -x.Position, Changes: x.Changes},
			{Position: x.Position, Changes: x.Changes[1:]}, {Position: x.Position, Changes: x.Changes[:len(x.Changes)-1]},
			{Position: x.Position, Changes: append(slices.Clone(x.Changes), put(1, 1))},
			{Position: x.Position, Changes: append(slices.Clone(x.Changes), x.Changes...)}}
		if len(x.Changes) > 1 {
			y = api.Record{Position: x.Position, Changes: slices.Clone(x.Changes)}
			slices.Reverse(y.Changes)
			others = append(others, y)
		}
		i := r.IntN(len(x.Changes))
		for _, d := range damaged(x.Changes[i]) {
			if d == x.Changes[i] {
				continue
			}
			y := api.Record{Position: x.Position, Changes: slices.Clone(x.Changes)}
			y.Changes[i] = d
			others = append(others, y)
		}
		for _, y := range others {
			if row.Same(x, y) || row.Same(y, x) || !row.Same(y, y) {
				t.Fatalf("Same of %v and %v", x, y)
			}
		}
	}
}

// P3.1, R3: nil and empty slices are equivalent.
func TestSameOfNothing(t *testing.T) {
	if !row.Same(api.Record{}, api.Record{Changes: []api.Change{}}) || !row.Same(api.Record{}, api.Record{}) {
		t.Error("records without changes differ")
	}
}

// P3.1: the bytes of the chapter's examples, and of each kind of change.
func TestEncodings(t *testing.T) {
	if s, err := row.Encode(some); s != "\x02\x0a\x0e\x05\x12" || err != api.OK {
		t.Errorf("Encode = %x, %d", s, err)
	}
	added := put(1, 5)
	removed := api.Change{Table: 1, Key: 6, Had: true, Old: [3]int{1, 0, -1}}
	changed := api.Change{Table: 2, Key: 1, Had: true, Old: [3]int{1, 2, 3}, Has: true, New: [3]int{1, 2, 64}}
	for _, x := range []struct {
		changes []api.Change
		want    string
	}{
		{[]api.Change{added}, "\x08\x02\x02\x0a\x04\x0e\x05\x12"},
		{[]api.Change{removed}, "\x08\x02\x02\x0c\x02\x02\x00\x01"},
		{[]api.Change{changed}, "\x08\x02\x04\x02\x06\x02\x04\x06\x02\x04\x80\x01"},
		{[]api.Change{added, removed, changed}, "\x08\x06\x02\x0a\x04\x0e\x05\x12\x02\x0c\x02\x02\x00\x01\x04\x02\x06\x02\x04\x06\x02\x04\x80\x01"},
	} {
		r := api.Record{Position: 4, Changes: x.changes}
		if s, err := row.EncodeRecord(r); s != x.want || err != api.OK {
			t.Errorf("EncodeRecord(%v) = %x, %d; want %x", r, s, err, x.want)
		}
		if got, err := row.DecodeRecord(x.want); !equal(got, r) || err != api.OK {
			t.Errorf("DecodeRecord(%x) = %v, %d; want %v", x.want, got, err, r)
		}
	}
}

// P3.1: what is not valid is not encoded.
func TestEncodeErrors(t *testing.T) {
	r := source()
	for range 100 {
		x := randomRow(r)
		for _, n := range extremes() {
			y := with(x, r.IntN(5), n)
			if s, err := row.Encode(y); !refValid(y) && (s != "" || err != api.ErrRow) {
				t.Fatalf("Encode(%v) = %x, %d", y, s, err)
			}
		}
		z := randomRecord(r)
		i := r.IntN(len(z.Changes))
		for _, d := range damaged(z.Changes[i]) {
			z.Changes[i] = d
			if s, err := row.EncodeRecord(z); !refValidRecord(z) && (s != "" || err != api.ErrRow) {
				t.Fatalf("EncodeRecord(%v) = %x, %d", z, s, err)
			}
		}
	}
	for _, z := range []api.Record{{}, {Position: 4}, {Position: 4, Changes: puts(9)}, {Changes: puts(1)}, {Position: 10001, Changes: puts(1)}, {Position: 4, Changes: []api.Change{put(1, 2), put(1, 1)}}} {
		if s, err := row.EncodeRecord(z); s != "" || err != api.ErrRow {
			t.Errorf("EncodeRecord(%v) = %x, %d", z, s, err)
		}
	}
}

// P3.2
func TestInverse(t *testing.T) {
	r := source()
	for range 5000 {
		x := randomRow(r)
		s, err := row.Encode(x)
		if want := ints(x.Table, x.Key, x.V[0], x.V[1], x.V[2]); s != want || err != api.OK {
			t.Fatalf("Encode(%v) = %x, %d; want %x", x, s, err, want)
		}
		if got, err := row.Decode(s); got != x || err != api.OK {
			t.Fatalf("Decode(%x) = %v, %d; want %v", s, got, err, x)
		}
		y := randomRecord(r)
		s, err = row.EncodeRecord(y)
		if want := ints(refNumbers(y)...); s != want || err != api.OK {
			t.Fatalf("EncodeRecord(%v) = %x, %d; want %x", y, s, err, want)
		}
		if got, err := row.DecodeRecord(s); !equal(got, y) || err != api.OK {
			t.Fatalf("DecodeRecord(%x) = %v, %d; want %v", s, got, err, y)
		}
	}
}

// P3.1: the errors of Decode in their order.
func TestDecodeErrors(t *testing.T) {
	for s, want := range map[string]api.Errno{
		"":                               api.ErrWire,
		"\x02\x0a\x0e\x05":               api.ErrWire, // a number is missing
		"\x02\x0a\x0e\x05\x80":           api.ErrWire,
		"\x02\x0a\x0e\x05\x92\x00":       api.ErrWire, // a superfluous zero group
		"\x02\x0a\x0e\x05\x12\x00":       api.ErrWire, // a byte is left over
		"\x08\x0a\x0e\x05\x12\x00":       api.ErrWire, // and the row is not valid
		"\x08\x0a\x0e\x05":               api.ErrWire,
		ints(1, 5, 7, -3) + ints(-1<<62): api.ErrWire, // no integer of package wire
		"\x08\x0a\x0e\x05\x12":           api.ErrRow,
		"\x01\x0a\x0e\x05\x12":           api.ErrRow,
		"\x02\x00\x0e\x05\x12":           api.ErrRow,
		ints(1, 1000001, 0, 0, 0):        api.ErrRow,
		ints(1, 5, 0, 0, 1000000001):     api.ErrRow,
		ints(1, 5, -1000000001, 0, 0):    api.ErrRow,
		ints(1, 5, 0, api.MaxInt, 0):     api.ErrRow,
		ints(1, 5, 0, -api.MaxInt, 0):    api.ErrRow,
	} {
		if r, err := row.Decode(s); r != (api.Row{}) || err != want {
			t.Errorf("Decode(%x) = %v, %d; want %d", s, r, err, want)
		}
	}
}

// P3.1: the errors of DecodeRecord in the order in which the encoding is read.
func TestDecodeRecordErrors(t *testing.T) {
	for s, want := range map[string]api.Errno{
		"":                                 api.ErrWire,
		"\x08":                             api.ErrWire, // the number of changes is missing
		"\x08\x80":                         api.ErrWire,
		"\x08\x00":                         api.ErrRow, // it is not from 1 to 8
		"\x08\x12":                         api.ErrRow,
		"\x08\x01":                         api.ErrRow,
		"\x00\x00\x80":                     api.ErrRow,
		ints(4, api.MaxInt):                api.ErrRow,
		ints(4, -api.MaxInt):               api.ErrRow,
		ints(4, 1<<40) + "\x80":            api.ErrRow,
		"\x80\x00\x00":                     api.ErrWire, // the position comes before it
		"\x08\x02":                         api.ErrWire,
		"\x08\x10":                         api.ErrWire,
		"\x08\x02\x02\x0a":                 api.ErrWire, // the marks are missing
		"\x08\x02\x02\x0a\x84\x00":         api.ErrWire,
		"\x08\x02\x02\x0a\x00":             api.ErrRow, // they are not from 1 to 3
		"\x08\x02\x02\x0a\x08":             api.ErrRow,
		"\x08\x02\x02\x0a\x01":             api.ErrRow,
		"\x08\x02\x02\x0a\x00\x0e\x05\x12": api.ErrRow,
		ints(4, 1, 1, 5, api.MaxInt):       api.ErrRow,
		ints(4, 1, 1, 5, 5) + "\x80\x00":   api.ErrRow, // before a number that is none
		"\x08\x02\x02\x0a\x04\x0e\x05":     api.ErrWire,
		ints(0, 1, 4, 0, 2, 7):             api.ErrWire, // before what makes the record invalid
		ints(0, 1, 4, 0, 2, 7, -3, 9, 0):   api.ErrWire,
		ints(4, 1, 1, 5, 3, 7, -3, 9):      api.ErrWire, // the new values are missing
		ints(4, 1, 1, 5, 1, 7, -3, 9) + "\x80\x00":                    api.ErrWire, // left over, and no number
		ints(4, 2, 1, 5, 1, 7, -3, 9, 1, 6):                           api.ErrWire,
		ints(4, 2, 9, 9, 1, 7, -3, 9, 1, 6, 4):                        api.ErrRow, // the second change's marks
		ints(4, 2, 1, 5, 1, 7, -3, 9):                                 api.ErrWire,
		ints(4, 1, 1, 5, 1, 7, -3, 9, 1, 6, 1, 7, -3, 9):              api.ErrWire, // a change too many
		ints(0, 1, 1, 5, 2, 7, -3, 9):                                 api.ErrRow,
		ints(10001, 1, 1, 5, 2, 7, -3, 9):                             api.ErrRow,
		ints(4, 1, 4, 5, 2, 7, -3, 9):                                 api.ErrRow,
		ints(4, 1, 1, 0, 2, 7, -3, 9):                                 api.ErrRow,
		ints(4, 1, 1, 5, 3, 7, -3, 9, 7, -3, 9):                       api.ErrRow, // equal values
		ints(4, 1, 1, 5, 1, 1000000001, 0, 0):                         api.ErrRow,
		ints(4, 2, 1, 5, 2, 7, -3, 9, 1, 5, 1, 0, 0, 0):               api.ErrRow, // the same row twice
		ints(4, 2, 1, 5, 2, 7, -3, 9, 0, 6, 2, 7, -3, 9):              api.ErrRow, // in descending order
		ints(4, 1, 1, 5, 2, 7, -3) + ints(-1<<62):                     api.ErrWire,
		ints(4, 1) + strings.Repeat("\xff", 9) + ints(5, 2, 7, -3, 9): api.ErrWire,
	} {
		if r, err := row.DecodeRecord(s); r.Position != 0 || len(r.Changes) != 0 || err != want {
			t.Errorf("DecodeRecord(%x) = %v, %d; want %d", s, r, err, want)
		}
	}
}

// P3.2, P3.3: what is accepted is the encoding of what is returned, and errors are those of the reference.
func TestDecodeReference(t *testing.T) {
	r := source()
	for range 200 {
		x := randomRow(r)
		l := []int{x.Table, x.Key, x.V[0], x.V[1], x.V[2]}
		for _, s := range append(mutations(r, ints(l...)), replaced(l)...) {
			wantDecode(t, s)
		}
		l = refNumbers(randomRecord(r))
		for _, s := range append(mutations(r, ints(l...)), replaced(l)...) {
			wantDecodeRecord(t, s)
		}
	}
}

// P3.2: every string of up to two bytes, and random ones, of which some are accepted.
func TestDecodeAnything(t *testing.T) {
	for i := range 1 << 16 {
		wantDecode(t, string([]byte{byte(i >> 8), byte(i)}))
		wantDecodeRecord(t, string([]byte{byte(i >> 8), byte(i)}))
	}
	r := source()
	rows, records := 0, 0
	for range 300000 {
		b := make([]byte, r.IntN(16))
		for i := range b {
			b[i] = byte(pick(r, int(r.Uint32()), r.IntN(10)))
		}
		if wantDecode(t, string(b)) == api.OK {
			rows++
		}
		if wantDecodeRecord(t, string(b)) == api.OK {
			records++
		}
	}
	if rows == 0 || records == 0 {
		t.Errorf("%d rows and %d records were accepted", rows, records)
	}
}

// P3.3: different rows and records have different encodings, of which none is the beginning of another.
func TestInjective(t *testing.T) {
	r := source()
	rows, records := map[string]api.Row{}, map[string]api.Record{}
	for range 20000 {
		x := randomRow(r)
		s, _ := row.Encode(x)
		if y, ok := rows[s]; ok && y != x {
			t.Fatalf("%v and %v have the same encoding", x, y)
		}
		rows[s] = x
		z := randomRecord(r)
		s, _ = row.EncodeRecord(z)
		if y, ok := records[s]; ok && !equal(y, z) {
			t.Fatalf("%v and %v have the same encoding", y, z)
		}
		records[s] = z
	}
	wantPrefixFree(t, rows)
	wantPrefixFree(t, records)
}

func wantPrefixFree[V any](t *testing.T, codes map[string]V) {
	t.Helper()
	for s := range codes {
		for end := range len(s) {
			if _, ok := codes[s[:end]]; ok {
				t.Fatalf("the encoding %x begins with the encoding %x", s, s[:end])
			}
		}
	}
}

// P3.3: no proper prefix of an encoding is accepted, nor an encoding with bytes behind it.
func TestPrefixesAndSuffixes(t *testing.T) {
	r := source()
	for range 500 {
		x, z := randomRow(r), randomRecord(r)
		s, _ := row.Encode(x)
		c, _ := row.EncodeRecord(z)
		for end := range len(s) {
			wantRefused(t, s[:end], row.Decode, api.Row{})
		}
		for end := range len(c) {
			if got, err := row.DecodeRecord(c[:end]); err != api.ErrWire || !equal(got, api.Record{}) {
				t.Fatalf("DecodeRecord(%x) = %v, %d", c[:end], got, err)
			}
		}
		for b := range 256 {
			more := string([]byte{byte(b)})
			wantRefused(t, s+more, row.Decode, api.Row{})
			if got, err := row.DecodeRecord(c + more); err != api.ErrWire || !equal(got, api.Record{}) {
				t.Fatalf("DecodeRecord(%x) = %v, %d", c+more, got, err)
			}
		}
	}
}

func wantRefused[V comparable](t *testing.T, s string, decode func(string) (V, api.Errno), zero V) {
	t.Helper()
	if got, err := decode(s); got != zero || err != api.ErrWire {
		t.Fatalf("%x is decoded as %v, %d", s, got, err)
	}
}

// R1: a long string does not exhaust anything.
func TestLongStrings(t *testing.T) {
	for _, s := range []string{strings.Repeat("\x02", 1<<20), strings.Repeat("\x80", 1<<20), strings.Repeat("\xff", 1<<20)} {
		if _, err := row.Decode(s); err != api.ErrWire {
			t.Errorf("Decode of %x.. = %d", s[:1], err)
		}
		if _, err := row.DecodeRecord(s); err != api.ErrWire {
			t.Errorf("DecodeRecord of %x.. = %d", s[:1], err)
		}
	}
}

// P3.1, R3: arguments are not modified, nor the spare capacity behind them.
func TestArgumentsAreKept(t *testing.T) {
	spare := make([]api.Change, 12)
	copy(spare, puts(12))
	r := api.Record{Position: 4, Changes: spare[:8]}
	row.ValidRecord(r)
	row.Same(r, r)
	row.EncodeRecord(r)
	row.EncodeRecord(api.Record{Position: 4, Changes: spare[:0]})
	row.EncodeRecord(api.Record{Position: 4, Changes: spare[:9]})
	if !slices.Equal(spare, puts(12)) {
		t.Errorf("the argument is now %v", spare)
	}
}

// P3.1, R3: results are new memory.
func TestNewMemory(t *testing.T) {
	r := api.Record{Position: 4, Changes: puts(3)}
	s, _ := row.EncodeRecord(r)
	first, _ := row.DecodeRecord(s)
	second, _ := row.DecodeRecord(s)
	all := first.Changes[:cap(first.Changes)]
	for i := range all {
		all[i] = api.Change{}
	}
	if !equal(second, r) {
		t.Errorf("a change of one result changes another: %v", second)
	}
	if third, err := row.DecodeRecord(s); !equal(third, r) || err != api.OK {
		t.Errorf("a change of a result changes a later one: %v", third)
	}
	again, _ := row.EncodeRecord(r)
	if unsafe.StringData(again) == unsafe.StringData(s) {
		t.Error("two calls of EncodeRecord return the same memory")
	}
}
