package logtree_test

import (
	"encoding/binary"
	"math"
	"math/rand/v2"
	"slices"
	"testing"

	"cachetier/api"
	"cachetier/digest"
	"cachetier/logtree"
)

func wantNext(t *testing.T, h api.Head, record api.Record, state string) api.Errno {
	t.Helper()
	want, wantErr := refNext(h, record, state)
	got, err := logtree.Next(h, record, state)
	if got != want || err != wantErr {
		t.Fatalf("Next(%v, %v, %x) = %v, %d; want %v, %d", h, record, state, got, err, want, wantErr)
	}
	return err
}

// P9.1: the head after any head, also after one that is not of a log.
func TestNext(t *testing.T) {
	r := source(1)
	for i := range 3000 {
		p := pick(r, 0, 1, 62, 63, 64, 8190, 8191, 8192, r.IntN(10000), 9998, 9999)
		h, record, state := randomHead(r, p), randomRecord(r, p+1), randomBytes(r)
		if i%5 == 0 {
			h.Chain, state = zeros, h.State
		}
		if err := wantNext(t, h, record, state); err != api.OK {
			t.Fatalf("Next(%v, %v) = %d", h, record, err)
		}
	}
}

// P9.1, R2: what Next refuses.
func TestNextErrors(t *testing.T) {
	r := source(2)
	for _, p := range []int{0, 1, 2, 63, 64, 5000, 9998, 9999} {
		h, record, state := randomHead(r, p), randomRecord(r, p+1), randomBytes(r)
		for _, bad := range badHeads(h) {
			if err := wantNext(t, bad, record, state); err != api.ErrLog {
				t.Errorf("Next after %v = %d", bad, err)
			}
		}
		for _, bad := range badRecords(r, p+1) {
			if err := wantNext(t, h, bad, state); err != api.ErrLog {
				t.Errorf("Next of %v after the position %d = %d", bad, p, err)
			}
		}
		for _, bad := range notDigests(r) {
			if err := wantNext(t, h, record, bad); err != api.ErrLog {
				t.Errorf("Next with a state of %d bytes = %d", len(bad), err)
			}
		}
	}
}

// P9.1: there is no position after the last one, and none is reached from beyond the numbers.
func TestNextBounds(t *testing.T) {
	r := source(3)
	wantNext(t, randomHead(r, 9999), randomRecord(r, 10000), randomBytes(r))
	for _, p := range []int{10000, 10001, -1, -2, math.MaxInt, math.MaxInt - 1, math.MinInt} {
		if err := wantNext(t, randomHead(r, p), randomRecord(r, p+1), randomBytes(r)); err != api.ErrLog {
			t.Errorf("Next after the position %d = %d", p, err)
		}
	}
}

// P9.1: the records between all pairs of heads, and too few or too many of them.
func TestFollows(t *testing.T) {
	r := source(4)
	_, m := grown(t, r, 8)
	for a := range m.heads {
		for b := range m.heads {
			for first := 1; first <= len(m.records); first++ {
				for last := first; last <= len(m.records); last++ {
					l := m.records[first:last]
					want := b-a == len(l) && (first == a+1 || len(l) == 0)
					if got := logtree.Follows(m.heads[a], l, m.heads[b]); got != want || got != refFollows(m.heads[a], l, m.heads[b]) {
						t.Errorf("Follows(head %d, records %d to %d, head %d) = %v", a, first, last-1, b, got)
					}
				}
			}
		}
	}
}

// P9.1: the states are compared only if there are no records, and valid in any case.
func TestFollowsStates(t *testing.T) {
	r := source(5)
	_, m := grown(t, r, 6)
	for a := range m.heads {
		for b := a; b < len(m.heads); b++ {
			from, to, l := m.heads[a], m.heads[b], m.records[a+1:b+1]
			from.State = randomBytes(r)
			if got := logtree.Follows(from, l, to); got != (len(l) > 0) {
				t.Errorf("Follows from another state at %d to %d = %v", a, b, got)
			}
			to.State = randomBytes(r)
			if got := logtree.Follows(m.heads[a], l, to); got != (len(l) > 0) {
				t.Errorf("Follows from %d to another state at %d = %v", a, b, got)
			}
			if got := logtree.Follows(from, l, to); got != (len(l) > 0) {
				t.Errorf("Follows from another state at %d to another one at %d = %v", a, b, got)
			}
			to.State = from.State
			if got, want := logtree.Follows(from, l, to), true; got != want {
				t.Errorf("Follows from %d to the same state at %d = %v", a, b, got)
			}
		}
	}
}

// P9.1: heads that are not valid lead nowhere, not even to themselves.
func TestFollowsNotValid(t *testing.T) {
	r := source(6)
	_, m := grown(t, r, 5)
	for a := range m.heads {
		for b := a; b < len(m.heads); b++ {
			l := m.records[a+1 : b+1]
			for i, from := range badHeads(m.heads[a]) {
				if logtree.Follows(from, l, m.heads[b]) || logtree.Follows(from, nil, from) || logtree.Follows(from, l, from) {
					t.Errorf("Follows from the head %v", from)
				}
				if logtree.Follows(from, l, badHeads(m.heads[b])[i]) {
					t.Errorf("Follows between heads like %v", from)
				}
			}
			for _, to := range badHeads(m.heads[b]) {
				if logtree.Follows(m.heads[a], l, to) {
					t.Errorf("Follows to the head %v", to)
				}
			}
		}
	}
	h := api.Head{Position: 3, Chain: m.heads[3].Chain[:30], State: m.heads[3].State}
	code := refCode(m.records[4])
	if logtree.Follows(h, m.records[4:5], api.Head{Position: 4, Chain: sha("\x02", h.Chain, code), State: h.State}) {
		t.Error("Follows with the right chain from a short one")
	}
}

// P9.1: Follows accepts what its definition accepts, and nothing else, near the records of a log; and heads of positions of which no log knows the first records.
func TestFollowsNear(t *testing.T) {
	r := source(7)
	for range 300 {
		p := pick(r, 0, 1, r.IntN(9995), 9995, 9990)
		heads := []api.Head{randomHead(r, p)}
		var l []api.Record
		for i := range r.IntN(6) {
			l = append(l, randomRecord(r, p+1+i))
			next, _ := refNext(heads[i], l[i], randomBytes(r))
			heads = append(heads, next)
		}
		a, b := heads[0], heads[len(l)]
		if !logtree.Follows(a, l, b) {
			t.Fatalf("%d records do not lead from the position %d to their head", len(l), p)
		}
		for _, from := range append(near(a), a) {
			for _, to := range append(near(b), heads...) {
				if got, want := logtree.Follows(from, l, to), refFollows(from, l, to); got != want {
					t.Fatalf("Follows(%v, %v, %v) = %v", from, l, to, got)
				}
			}
		}
		for _, x := range variants(r, l, p) {
			if got, want := logtree.Follows(a, x, b), refFollows(a, x, b); got != want {
				t.Fatalf("Follows(%v, %v, %v) = %v", a, x, b, got)
			}
		}
	}
}

// P9.1: a head may be reached, and may be of the last position.
func TestFollowsLong(t *testing.T) {
	r := source(8)
	a := randomHead(r, 0)
	h, l := a, []api.Record(nil)
	for p := 1; p <= 10000; p++ {
		l = append(l, api.Record{Position: p, Changes: []api.Change{randomChange(r)}})
		h.Position, h.Chain = p, sha("\x02", h.Chain, refCode(l[p-1]))
	}
	if !logtree.Follows(a, l, h) || logtree.Follows(a, l[:9999], h) || logtree.Follows(a, append(l, l[9999]), h) {
		t.Error("10000 records")
	}
	l = append(l, api.Record{Position: 10001, Changes: l[0].Changes})
	past := api.Head{Position: 10001, Chain: sha("\x02", h.Chain, refCode(l[10000])), State: h.State}
	if logtree.Follows(h, l[10000:], past) || logtree.Follows(h, l[10000:], h) || logtree.Follows(a, l, past) || logtree.Follows(a, l, h) {
		t.Error("a record after the last position")
	}
}

// P9.1, P9.2: the encodings of all positions.
func TestEncode(t *testing.T) {
	r := source(9)
	chain, state := randomBytes(r), randomBytes(r)
	for p := range 10001 {
		h := api.Head{Position: p, Chain: chain, State: state}
		s, err := logtree.Encode(h)
		if s != refEncode(h) || err != api.OK {
			t.Fatalf("Encode(%v) = %x, %d", h, s, err)
		}
		if got, err := logtree.Decode(s); got != h || err != api.OK {
			t.Fatalf("Decode(%x) = %v, %d; want %v", s, got, err, h)
		}
	}
	for range 1000 {
		h := randomHead(r, r.IntN(10001))
		s, err := logtree.Encode(h)
		if got, e := logtree.Decode(s); got != h || err != api.OK || e != api.OK {
			t.Fatalf("Decode of the encoding of %v = %v, %d, %d", h, got, err, e)
		}
	}
}

// P9.1, R2: no other head has an encoding.
func TestEncodeErrors(t *testing.T) {
	r := source(10)
	for _, p := range []int{0, 1, 64, 10000} {
		for _, h := range badHeads(randomHead(r, p)) {
			if s, err := logtree.Encode(h); s != "" || err != api.ErrLog {
				t.Errorf("Encode(%v) = %x, %d", h, s, err)
			}
		}
	}
}

// wantDecode compares Decode and its reference, and requires that what is accepted is the encoding of what is returned.
func wantDecode(t *testing.T, s string) api.Errno {
	t.Helper()
	want, wantErr := refDecode(s)
	got, err := logtree.Decode(s)
	if got != want || err != wantErr {
		t.Fatalf("Decode(%x) = %v, %d; want %v, %d", s, got, err, want, wantErr)
	}
	if err == api.OK {
		if code, e := logtree.Encode(got); code != s || e != api.OK {
			t.Fatalf("Decode accepts %x, but Encode gives %x, %d", s, code, e)
		}
	}
	return err
}

// P9.1, P9.2: encodings that are cut, longer, or changed in a byte.
func TestDecodeNear(t *testing.T) {
	r := source(11)
	for _, p := range []int{0, 1, 5, 63, 64, 127, 128, 8191, 8192, 9999, 10000} {
		s := refEncode(randomHead(r, p))
		for n := range s {
			if err := wantDecode(t, s[:n]); err != api.ErrWire {
				t.Errorf("Decode of %d bytes of the head at %d = %d", n, p, err)
			}
			wantDecode(t, s[n:])
			wantDecode(t, s[:n]+s[n+1:])
			wantDecode(t, s[:n]+"\x80"+s[n:])
			for bit := range 8 {
				wantDecode(t, s[:n]+string([]byte{s[n] ^ 1<<bit})+s[n+1:])
			}
		}
		for _, more := range []string{"x", "\x00", randomBytes(r, 32), s} {
			if err := wantDecode(t, s+more); err != api.ErrWire {
				t.Errorf("Decode of the head at %d and %d more bytes = %d", p, len(more), err)
			}
			wantDecode(t, more+s)
		}
	}
}

// P9.1: positions that are none, and numbers that are none, before up to 65 bytes: what is left over or missing is an error before a position that is none.
func TestDecodeErrors(t *testing.T) {
	r := source(12)
	wantDecode(t, "")
	rest := randomBytes(r, 65)
	var numbers []string
	for _, n := range []int64{-1, -2, -64, 0, 10000, 10001, 10002, 1 << 31, 1 << 32, 1<<32 + 5, api.MaxInt, -api.MaxInt, api.MaxInt + 1, -api.MaxInt - 1, math.MaxInt64, math.MinInt64} {
		numbers = append(numbers, string(binary.AppendVarint(nil, n)))
	}
	numbers = append(numbers, "\x80\x00", "\x8a\x00", "\x8a\x80\x00", "\xff\xff\xff\xff\xff\xff\xff\xff\xff\xff\x01", "\x80\x80\x80\x80\x80\x80\x80\x80\x80\x80\x01")
	for _, number := range numbers {
		for n := range len(rest) + 1 {
			wantDecode(t, number+rest[:n])
		}
		if _, err := refDecode(number + rest[:63]); err != api.ErrWire {
			t.Errorf("the reference accepts 63 bytes after %x", number)
		}
	}
	for _, number := range []string{"\x01", "\xa2\x9c\x01"} {
		if _, err := logtree.Decode(number + rest[:64]); err != api.ErrLog {
			t.Errorf("Decode of the position %x = %d", number, err)
		}
	}
	all := make([]byte, 70)
	for i := range all {
		all[i] = 0xff
	}
	wantDecode(t, string(all))
}

// P9.1: Verify accepts what its definition accepts, and nothing else, near the proofs of a log.
func TestVerifyNear(t *testing.T) {
	r := source(13)
	for n := range 20 {
		_, m := grown(t, r, n)
		all := refLevels(m.heads)
		root := refRoot(m.heads)
		for p, h := range m.heads {
			path := refPath(all, p)
			if !logtree.Verify(root, n, h, path) {
				t.Fatalf("Verify refuses the head %d of %d records", p, n)
			}
			for number := -1; number <= n+3; number++ {
				for _, other := range append(near(h), m.heads...) {
					if got, want := logtree.Verify(root, number, other, path), refVerify(root, number, other, path); got != want {
						t.Fatalf("Verify(%d records, %v) with the path of head %d of %d = %v", number, other, p, n, got)
					}
				}
			}
			for _, other := range paths(r, path) {
				if got, want := logtree.Verify(root, n, h, other), refVerify(root, n, h, other); got != want {
					t.Fatalf("Verify of head %d of %d with the path %x = %v", p, n, other, got)
				}
			}
			for _, other := range []string{"", root[:31], root + "x", randomBytes(r), h.Chain, all[0][p]} {
				if got, want := logtree.Verify(other, n, h, path), refVerify(other, n, h, path); got != want {
					t.Fatalf("Verify of head %d of %d with the root %x = %v", p, n, other, got)
				}
			}
		}
	}
}

// paths returns paths that differ from path a little.
func paths(r *rand.Rand, path []string) [][]string {
	x := randomBytes(r)
	all := [][]string{nil, append(slices.Clone(path), x), append([]string{x}, path...), append(slices.Clone(path), path...)}
	for i, s := range path {
		all = append(all, slices.Delete(slices.Clone(path), i, i+1), slices.Insert(slices.Clone(path), i, s), path[:i])
		for _, other := range []string{x, "", s[:31], s + "x", s + s, zeros} {
			changed := slices.Clone(path)
			changed[i] = other
			all = append(all, changed)
		}
	}
	return all
}

// P9.1: heads that are not valid are refused, even if their encoding would be that of a head of the log.
func TestVerifyNotValid(t *testing.T) {
	r := source(14)
	for _, n := range []int{0, 1, 5} {
		x, m := grown(t, r, n)
		for p, h := range m.heads {
			path, _ := x.Prove(p)
			for _, bad := range badHeads(h) {
				if logtree.Verify(x.Root(), n, bad, path) {
					t.Errorf("Verify accepts %v", bad)
				}
			}
		}
	}
	for _, h := range []api.Head{{}, {Position: -1, Chain: zeros, State: zeros}, {Chain: zeros}} {
		if logtree.Verify(digest.Leaf(refEncode(h)), 0, h, nil) {
			t.Errorf("Verify accepts %v as the only head", h)
		}
	}
}

// P9.1: numbers of records that are none, and the greatest one.
func TestVerifyBounds(t *testing.T) {
	r := source(15)
	h := randomHead(r, 0)
	leaf := digest.Leaf(refEncode(h))
	for _, n := range []int{-1, -2, 10001, 1 << 32, math.MaxInt, math.MaxInt - 1, math.MinInt} {
		for _, p := range []int{0, 1, 9999, 10000} {
			other := h
			other.Position = p
			if logtree.Verify(leaf, n, h, nil) || logtree.Verify(leaf, n, other, nil) || logtree.Verify(leaf, n, other, []string{zeros}) {
				t.Errorf("Verify accepts a log of %d records", n)
			}
		}
	}
	heads := make([]api.Head, 10002)
	for p := range heads {
		heads[p] = api.Head{Position: p, Chain: h.Chain, State: h.State}
	}
	for _, n := range []int{9999, 10000, 10001} {
		all := refLevels(heads[:n+1])
		root := all[len(all)-1][0]
		for _, p := range []int{0, 1, 8191, 8192, 9998, 9999, 10000, 10001} {
			if p > n {
				continue
			}
			if got := logtree.Verify(root, n, heads[p], refPath(all, p)); got != (n <= 10000) {
				t.Errorf("Verify of the head %d of %d records = %v", p, n, got)
			}
		}
	}
}

// variants returns lists that differ from l, which are records at the positions after p, a little.
func variants(r *rand.Rand, l []api.Record, p int) [][]api.Record {
	more := randomRecord(r, p+len(l)+1)
	all := [][]api.Record{nil, append(slices.Clone(l), more), append([]api.Record{more}, l...), append(slices.Clone(l), l...), append(slices.Clone(l), api.Record{})}
	for i, x := range l {
		all = append(all, slices.Delete(slices.Clone(l), i, i+1), slices.Insert(slices.Clone(l), i, x), l[:i], l[i:])
		for _, other := range append(append(badRecords(r, x.Position), randomRecord(r, x.Position), more), altered(x)...) {
			changed := slices.Clone(l)
			changed[i] = other
			all = append(all, changed)
		}
		if i > 0 {
			swapped := slices.Clone(l)
			swapped[i-1], swapped[i] = swapped[i], swapped[i-1]
			all = append(all, swapped)
		}
	}
	return all
}

// altered returns records that differ from x in one number or mark; they need not be valid.
func altered(x api.Record) []api.Record {
	list := []api.Record{{Position: x.Position + 1, Changes: x.Changes}, {Position: x.Position, Changes: x.Changes[1:]}}
	for i := range x.Changes {
		for _, alter := range []func(c *api.Change){
			func(c *api.Change) { c.Table ^= 1 },
			func(c *api.Change) { c.Key++ },
			func(c *api.Change) { c.Old[0]++ },
			func(c *api.Change) { c.Old[2]-- },
			func(c *api.Change) { c.New[0]-- },
			func(c *api.Change) { c.New[1]++ },
			func(c *api.Change) { c.New[2] ^= 1 },
			func(c *api.Change) { c.Had = !c.Had },
			func(c *api.Change) { c.Has = !c.Has },
			func(c *api.Change) { c.Had, c.Has, c.Old, c.New = c.Has, c.Had, c.New, c.Old },
		} {
			other := cloned(x)
			alter(&other.Changes[i])
			list = append(list, other)
		}
	}
	return list
}
