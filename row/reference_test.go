package row_test

import (
	"encoding/binary"
	"math"
	"math/rand/v2"
	"slices"
	"testing"

	"cachetier/api"
	"cachetier/row"
)

// The references below follow the chapter in another way than the package: bounds are written out, encodings are made with the standard library's signed varints, and reading returns its errors.

func in(n, low, high int) bool { return n >= low && n <= high }

func refValid(r api.Row) bool {
	return in(r.Table, 0, 3) && in(r.Key, 1, 1000000) && in(r.V[0], -1000000000, 1000000000) && in(r.V[1], -1000000000, 1000000000) && in(r.V[2], -1000000000, 1000000000)
}

func refValidChange(c api.Change) bool {
	zero := [3]int{}
	old := refValid(api.Row{Table: c.Table, Key: c.Key, V: c.Old})
	new := refValid(api.Row{Table: c.Table, Key: c.Key, V: c.New})
	switch {
	case c.Had && c.Has:
		return old && new && c.Old != c.New
	case c.Had:
		return old && c.New == zero
	case c.Has:
		return new && c.Old == zero
	}
	return false
}

func refValidRecord(r api.Record) bool {
	if !in(r.Position, 1, 10000) || !in(len(r.Changes), 1, 8) {
		return false
	}
	before := -1
	for _, c := range r.Changes {
		if !refValidChange(c) {
			return false
		}
		place := c.Table*10000000 + c.Key // keys have at most 7 digits
		if place <= before {
			return false
		}
		before = place
	}
	return true
}

func ints(numbers ...int) string {
	var code []byte
	for _, n := range numbers {
		code = binary.AppendVarint(code, int64(n))
	}
	return string(code)
}

func refNumbers(r api.Record) []int {
	numbers := []int{r.Position, len(r.Changes)}
	for _, c := range r.Changes {
		switch {
		case c.Had && c.Has:
			numbers = append(append(append(numbers, c.Table, c.Key, 3), c.Old[:]...), c.New[:]...)
		case c.Had:
			numbers = append(append(numbers, c.Table, c.Key, 1), c.Old[:]...)
		case c.Has:
			numbers = append(append(numbers, c.Table, c.Key, 2), c.New[:]...)
		default:
			numbers = append(numbers, c.Table, c.Key, 0)
		}
	}
	return numbers
}

// refInt returns the number at the beginning of s and the rest of s, or false.
func refInt(s string) (int, string, bool) {
	n, size := binary.Varint([]byte(s))
	if size <= 0 || n < -api.MaxInt || n > api.MaxInt || ints(int(n)) != s[:size] {
		return 0, "", false
	}
	return int(n), s[size:], true
}

// refInts returns the k numbers at the beginning of s and the rest of s, or false.
func refInts(s string, k int) ([]int, string, bool) {
	var list []int
	for range k {
		n, rest, ok := refInt(s)
		if !ok {
			return nil, "", false
		}
		list, s = append(list, n), rest
	}
	return list, s, true
}

func refDecode(s string) (api.Row, api.Errno) {
	n, rest, ok := refInts(s, 5)
	if !ok || rest != "" {
		return api.Row{}, api.ErrWire
	}
	if r := (api.Row{Table: n[0], Key: n[1], V: [3]int(n[2:])}); refValid(r) {
		return r, api.OK
	}
	return api.Row{}, api.ErrRow
}

func refDecodeRecord(s string) (api.Record, api.Errno) {
	n, rest, ok := refInts(s, 2)
	if !ok {
		return api.Record{}, api.ErrWire
	}
	if !in(n[1], 1, 8) {
		return api.Record{}, api.ErrRow
	}
	r := api.Record{Position: n[0]}
	for range n[1] {
		c, left, err := refDecodeChange(rest)
		if err != api.OK {
			return api.Record{}, err
		}
		r.Changes, rest = append(r.Changes, c), left
	}
	if rest != "" {
		return api.Record{}, api.ErrWire
	}
	if !refValidRecord(r) {
		return api.Record{}, api.ErrRow
	}
	return r, api.OK
}

func refDecodeChange(s string) (api.Change, string, api.Errno) {
	n, rest, ok := refInts(s, 3)
	if !ok {
		return api.Change{}, "", api.ErrWire
	}
	if !in(n[2], 1, 3) {
		return api.Change{}, "", api.ErrRow
	}
	c := api.Change{Table: n[0], Key: n[1], Had: n[2] != 2, Has: n[2] != 1}
	for _, side := range []struct {
		exists bool
		v      *[3]int
	}{{c.Had, &c.Old}, {c.Has, &c.New}} {
		if !side.exists {
			continue
		}
		values, left, ok := refInts(rest, 3)
		if !ok {
			return api.Change{}, "", api.ErrWire
		}
		*side.v, rest = [3]int(values), left
	}
	return c, rest, api.OK
}

func source() *rand.Rand { return rand.New(rand.NewPCG(5, 6)) }

func pick(r *rand.Rand, list ...int) int { return list[r.IntN(len(list))] }

// values returns small values, which are often equal, and values of any size.
func values(r *rand.Rand) [3]int {
	var v [3]int
	for i := range v {
		v[i] = pick(r, 0, 1, r.IntN(2000000001)-1000000000, 1000000000, -1000000000)
	}
	return v
}

func randomRow(r *rand.Rand) api.Row {
	return api.Row{Table: r.IntN(4), Key: pick(r, 1, 2, 1+r.IntN(1000000), 1000000), V: values(r)}
}

func randomChange(r *rand.Rand) api.Change {
	x := randomRow(r)
	c := api.Change{Table: x.Table, Key: x.Key}
	for !refValidChange(c) {
		c.Had, c.Has, c.Old, c.New = false, false, [3]int{}, [3]int{}
		if r.IntN(2) == 0 {
			c.Had, c.Old = true, values(r)
		}
		if r.IntN(2) == 0 {
			c.Has, c.New = true, values(r)
		}
	}
	return c
}

func compare(a, b api.Change) int { return (a.Table*10000000 + a.Key) - (b.Table*10000000 + b.Key) }

func randomRecord(r *rand.Rand) api.Record {
	x := api.Record{Position: pick(r, 1, 2, 1+r.IntN(10000), 10000)}
	for range 1 + r.IntN(8) {
		x.Changes = append(x.Changes, randomChange(r))
	}
	slices.SortFunc(x.Changes, compare)
	x.Changes = slices.CompactFunc(x.Changes, func(a, b api.Change) bool { return compare(a, b) == 0 })
	return x
}

// extremes are numbers beside and far beyond the bounds of tables, keys, values, positions and marks.
func extremes() []int {
	list := []int{math.MinInt, math.MinInt + 1, math.MaxInt, math.MaxInt - 1}
	for _, n := range []int{0, 3, 8, 10000, 1000000, 1000000000, 1 << 31, 1 << 32, api.MaxInt} {
		for d := -2; d <= 2; d++ {
			list = append(list, n+d, -n+d)
		}
	}
	return list
}

// wantDecode compares Decode and its reference, and requires that what is accepted is the encoding of what is returned.
func wantDecode(t *testing.T, s string) api.Errno {
	t.Helper()
	want, wantErr := refDecode(s)
	got, err := row.Decode(s)
	if got != want || err != wantErr {
		t.Fatalf("Decode(%x) = %v, %d; want %v, %d", s, got, err, want, wantErr)
	}
	if err == api.OK {
		if code, e := row.Encode(got); code != s || e != api.OK {
			t.Fatalf("Decode accepts %x, but Encode gives %x, %d", s, code, e)
		}
	}
	return err
}

// wantDecodeRecord does the same for DecodeRecord.
func wantDecodeRecord(t *testing.T, s string) api.Errno {
	t.Helper()
	want, wantErr := refDecodeRecord(s)
	got, err := row.DecodeRecord(s)
	if !equal(got, want) || err != wantErr {
		t.Fatalf("DecodeRecord(%x) = %v, %d; want %v, %d", s, got, err, want, wantErr)
	}
	if err == api.OK {
		if code, e := row.EncodeRecord(got); code != s || e != api.OK {
			t.Fatalf("DecodeRecord accepts %x, but EncodeRecord gives %x, %d", s, code, e)
		}
	}
	return err
}

func equal(a, b api.Record) bool {
	return a.Position == b.Position && slices.Equal(a.Changes, b.Changes)
}

// mutations returns strings that differ from s a little: all its prefixes, one byte more, one byte changed, left out or doubled.
func mutations(r *rand.Rand, s string) []string {
	list := []string{s + "\x00", s + "\x02", s + "\x80", s + s, "\x00" + s}
	for i := range len(s) {
		list = append(list, s[:i], s[:i]+s[i+1:], s[:i+1]+s[i:])
		for _, b := range []byte{0, 1, 2, 4, 6, 8, 16, 18, 127, 128, 255, s[i] ^ 1, s[i] + 2, s[i] - 2, s[i] ^ 128, byte(r.Uint32())} {
			list = append(list, s[:i]+string([]byte{b})+s[i+1:])
		}
		list = append(list, s[:i]+string([]byte{s[i] | 128, 0})+s[i+1:])
	}
	return list
}

// replaced returns the encodings of lists of numbers that differ from l in one place.
func replaced(l []int) []string {
	var list []string
	for i := range l {
		for _, n := range append(extremes(), l[i]+1, l[i]-1) {
			if n < -api.MaxInt-1 || n > api.MaxInt+1 {
				continue // a varint of 10 bytes is tried by the mutations
			}
			list = append(list, ints(l[:i]...)+ints(n)+ints(l[i+1:]...))
		}
	}
	return list
}
