package logtree_test

import (
	"reflect"
	"slices"
	"strings"
	"testing"

	"cachetier/api"
	"cachetier/digest"
	"cachetier/logtree"
	"cachetier/row"
)

// P9.1: the chapter's examples.
func TestExamples(t *testing.T) {
	s, state := strings.Repeat("S", 32), strings.Repeat("T", 32)
	x, err := logtree.New(s)
	if err != api.OK || x.Root() != digest.Root([]string{"\x00" + zeros + s}) {
		t.Fatalf("New = %d, Root = %x", err, x.Root())
	}
	record := api.Record{Position: 1, Changes: []api.Change{{Table: 1, Key: 5, Has: true, New: [3]int{7, -3, 9}}}}
	if err := x.Append(record, state); err != api.OK {
		t.Errorf("Append = %d", err)
	}
	if err := x.Append(record, state); err != api.ErrLog {
		t.Errorf("the second Append = %d", err)
	}
	code, _ := row.EncodeRecord(record)
	before, _ := x.Head(0)
	after, ok := x.Head(1)
	if want := (api.Head{Position: 1, Chain: digest.Chain(zeros, code), State: state}); after != want || !ok {
		t.Errorf("Head(1) = %v, %v; want %v", after, ok, want)
	}
	if !logtree.Follows(before, []api.Record{record}, after) || logtree.Follows(before, nil, after) {
		t.Error("Follows")
	}
	path, err := x.Prove(2)
	proof, e := x.Extension(2)
	if len(path) > 0 || err != api.ErrArg || len(proof) > 0 || e != api.ErrArg {
		t.Errorf("Prove(2): %d digests, %d; Extension(2): %d digests, %d", len(path), err, len(proof), e)
	}
}

// P9.1: a new log, and a state that is none.
func TestNew(t *testing.T) {
	r := source(21)
	for _, state := range []string{zeros, randomBytes(r), strings.Repeat("\xff", 32)} {
		x, err := logtree.New(state)
		if err != api.OK {
			t.Fatalf("New = %d", err)
		}
		wantAll(t, x, newModel(state))
	}
	for _, state := range notDigests(r) {
		if x, err := logtree.New(state); x != nil || err != api.ErrLog {
			t.Errorf("New with a state of %d bytes = %v, %d", len(state), x, err)
		}
	}
}

// wantAll compares everything that can be asked of a log with its model.
func wantAll(t *testing.T, x *logtree.Log, m *model) {
	t.Helper()
	wantHeads(t, x, m)
	for p := range m.heads {
		wantProofs(t, x, m, p)
	}
	wantNoProofs(t, x, m)
}

// P9.1, R4: a nil log.
func TestNil(t *testing.T) {
	var x *logtree.Log
	r := source(22)
	for _, record := range append(badRecords(r, 1), randomRecord(r, 1)) {
		for _, state := range append(notDigests(r), zeros) {
			if err := x.Append(record, state); err != api.ErrNil {
				t.Errorf("Append = %d", err)
			}
		}
	}
	if x.Len() != 0 || x.Root() != "" {
		t.Errorf("Len = %d, Root = %x", x.Len(), x.Root())
	}
	for p := -2; p <= 2; p++ {
		h, is := x.Head(p)
		record, has := x.Record(p)
		if h != (api.Head{}) || is || record.Position != 0 || len(record.Changes) > 0 || has {
			t.Errorf("Head(%d) = %v, %v; Record(%d) = %v, %v", p, h, is, p, record, has)
		}
		path, err := x.Prove(p)
		proof, e := x.Extension(p)
		if len(path) > 0 || err != api.ErrNil || len(proof) > 0 || e != api.ErrNil {
			t.Errorf("Prove(%d): %d digests, %d; Extension(%d): %d digests, %d", p, len(path), err, p, len(proof), e)
		}
	}
}

// P9.1: all that can be asked of logs of all lengths up to some power of two.
func TestLengths(t *testing.T) {
	r := source(23)
	x, m := grown(t, r, 0)
	for p := 1; p <= 34; p++ {
		mustAppend(t, x, m, randomRecord(r, p), randomBytes(r))
		wantAll(t, x, m)
	}
}

// P9.1: sequences of calls of all kinds.
func TestCalls(t *testing.T) {
	for seed := range uint64(20) {
		r := source(100 + seed)
		x, m := grown(t, r, r.IntN(3))
		for range 200 {
			switch p := r.IntN(m.len() + 1); r.IntN(5) {
			case 0:
				mustAppend(t, x, m, randomRecord(r, m.len()+1), randomBytes(r))
			case 1:
				bad := badRecords(r, m.len()+1)
				record, state := bad[r.IntN(len(bad))], randomBytes(r)
				if err, want := x.Append(record, state), m.append(record, state); err != want || err != api.ErrLog {
					t.Fatalf("Append(%v) = %d, want %d", record, err, want)
				}
			case 2:
				wantHeads(t, x, m)
			case 3:
				wantProofs(t, x, m, p)
			case 4:
				wantNoProofs(t, x, m)
			}
		}
		wantAll(t, x, m)
	}
}

// P9.1, R2: what Append refuses changes nothing.
func TestAppendErrors(t *testing.T) {
	r := source(24)
	for _, n := range []int{0, 1, 7} {
		x, m := grown(t, r, n)
		for _, bad := range badRecords(r, n+1) {
			if err := x.Append(bad, randomBytes(r)); err != api.ErrLog {
				t.Errorf("Append of %v to %d records = %d", bad, n, err)
			}
			wantHeads(t, x, m)
		}
		for _, bad := range notDigests(r) {
			if err := x.Append(randomRecord(r, n+1), bad); err != api.ErrLog {
				t.Errorf("Append with a state of %d bytes = %d", len(bad), err)
			}
			wantHeads(t, x, m)
		}
		wantAll(t, x, m)
		mustAppend(t, x, m, randomRecord(r, n+1), randomBytes(r))
		wantAll(t, x, m)
	}
}

// P9.1: two logs that begin in the same way share nothing.
func TestTwoLogs(t *testing.T) {
	r := source(25)
	state := randomBytes(r)
	a, _ := logtree.New(state)
	b, _ := logtree.New(state)
	m, n := newModel(state), newModel(state)
	for p := 1; p <= 9; p++ {
		record, state := randomRecord(r, p), randomBytes(r)
		mustAppend(t, a, m, record, state)
		if p > 4 {
			record, state = randomRecord(r, p), randomBytes(r)
		}
		mustAppend(t, b, n, record, state)
		wantAll(t, a, m)
		wantAll(t, b, n)
	}
}

// P9.1, R3: a log keeps nothing of the records that it is given, and gives nothing away of those that it keeps; arguments stay as they are.
func TestNoSharing(t *testing.T) {
	r := source(26)
	x, m := grown(t, r, 0)
	for p := 1; p <= 6; p++ {
		record, state := randomRecord(r, p), randomBytes(r)
		spare := slices.Grow(slices.Clone(record.Changes), 4)
		marks := spare[len(spare):cap(spare)]
		marks[0].Key = 77
		given := api.Record{Position: p, Changes: spare}
		if _, err := logtree.Next(m.heads[p-1], given, state); err != api.OK {
			t.Fatalf("Next = %d", err)
		}
		mustAppend(t, x, m, given, state)
		if !logtree.Follows(m.heads[p-1], []api.Record{given}, m.heads[p]) {
			t.Fatal("Follows")
		}
		if !reflect.DeepEqual(given, record) || marks[0] != (api.Change{Key: 77}) {
			t.Fatalf("the argument %v has become %v", record, given)
		}
		overwrite(given)
		wantAll(t, x, m)
	}
	for p := 1; p <= 6; p++ {
		got, _ := x.Record(p)
		other, _ := x.Record(p)
		overwrite(got)
		if !reflect.DeepEqual(other, m.records[p]) {
			t.Fatalf("two results of Record(%d) share memory", p)
		}
		for _, l := range [][]string{list(x.Prove(p)), list(x.Extension(p - 1))} {
			for i := range l {
				l[i] = ""
			}
			for i := range l[len(l):cap(l)] {
				l[:cap(l)][len(l)+i] = "spare"
			}
		}
		wantAll(t, x, m)
	}
}

func list(l []string, _ api.Errno) []string { return l }

// overwrite changes all memory of r, also the spare.
func overwrite(r api.Record) {
	for i := range r.Changes[:cap(r.Changes)] {
		r.Changes[:cap(r.Changes)][i] = api.Change{Table: -1, Key: -1}
	}
}

// P9.1: checking a path does not change it.
func TestPathStays(t *testing.T) {
	r := source(27)
	x, m := grown(t, r, 6)
	path, _ := x.Prove(3)
	given := append(slices.Clone(path), "spare")[:len(path)]
	for _, n := range []int{5, 6, 7} {
		logtree.Verify(x.Root(), n, m.heads[3], given)
		if !slices.Equal(given, path) || given[:len(path)+1][len(path)] != "spare" {
			t.Fatalf("the path has become %x", given)
		}
	}
}

// P9.1: a log of all positions, and no more. Its proofs are those of other positions, too.
func TestFullLog(t *testing.T) {
	r := source(28)
	x, m := grown(t, r, 9999)
	for _, n := range []int{9999, 10000} {
		if n == 10000 {
			mustAppend(t, x, m, randomRecord(r, n), randomBytes(r))
		}
		for _, p := range []int{0, 1, 4096, 8191, 8192, 9998, 9999, n} {
			wantProofs(t, x, m, p)
			path, _ := x.Prove(p)
			if !logtree.Verify(x.Root(), n, m.heads[p], path) {
				t.Errorf("Verify refuses the head %d of %d records", p, n)
			}
		}
	}
	wantHeads(t, x, m)
	for _, p := range []int{10001, 10000, 10002, 1} {
		if err := x.Append(randomRecord(r, p), randomBytes(r)); err != api.ErrLog {
			t.Errorf("Append of a record at %d to a full log = %d", p, err)
		}
	}
	wantHeads(t, x, m)
	wantNoProofs(t, x, m)
	if !logtree.Follows(m.heads[0], m.records[1:], m.heads[10000]) {
		t.Error("the records of a full log do not lead to its last head")
	}
}

// P9.3: each head is proved by its path, and nothing else is: neither other heads, nor at another number, nor for another root.
func TestBinding(t *testing.T) {
	r := source(29)
	x, m := grown(t, r, 0)
	roots := []string{x.Root()}
	for n := 1; n <= 20; n++ {
		mustAppend(t, x, m, randomRecord(r, n), randomBytes(r))
		roots = append(roots, x.Root())
		for p, h := range m.heads {
			path, err := x.Prove(p)
			if err != api.OK || !logtree.Verify(x.Root(), n, h, path) {
				t.Fatalf("Prove(%d) of %d records: %d digests, %d", p, n, len(path), err)
			}
			for _, other := range append(near(h), m.heads...) {
				if got := logtree.Verify(x.Root(), n, other, path); got != (other == h) {
					t.Errorf("Verify of %v with the path of %v = %v", other, h, got)
				}
			}
			for _, root := range roots[:n] {
				if logtree.Verify(root, n, h, path) {
					t.Errorf("Verify accepts head %d of %d records for an earlier root", p, n)
				}
			}
			for q := range m.heads {
				other, _ := x.Prove(q)
				if got := logtree.Verify(x.Root(), n, h, other); got != (p == q) {
					t.Errorf("Verify of head %d of %d records with the path of head %d = %v", p, n, q, got)
				}
			}
		}
	}
}

// P9.4: the records between two positions lead from head to head, and no others do.
func TestHistory(t *testing.T) {
	r := source(30)
	x, m := grown(t, r, 12)
	for a := range m.heads {
		from, _ := x.Head(a)
		for b := a; b < len(m.heads); b++ {
			to, _ := x.Head(b)
			var l []api.Record
			for p := a + 1; p <= b; p++ {
				record, _ := x.Record(p)
				l = append(l, record)
			}
			if !logtree.Follows(from, l, to) {
				t.Errorf("the records do not lead from head %d to head %d", a, b)
			}
			for _, other := range variants(r, l, a) {
				same := slices.EqualFunc(l, other, row.Same)
				if got := logtree.Follows(from, other, to); got != same {
					t.Errorf("Follows(head %d, %v, head %d) = %v", a, other, b, got)
				}
			}
		}
	}
}

// P9.5: Extension connects the roots before and after any number of Appends.
func TestAppendOnly(t *testing.T) {
	r := source(31)
	x, m := grown(t, r, 0)
	roots := []string{x.Root()}
	for n := 1; n <= 33; n++ {
		mustAppend(t, x, m, randomRecord(r, n), randomBytes(r))
		roots = append(roots, x.Root())
		for before := range roots {
			proof, err := x.Extension(before)
			if err != api.OK {
				t.Fatalf("Extension(%d) of %d records = %d", before, n, err)
			}
			for i, old := range roots {
				if got := digest.VerifyExtension(old, before+1, x.Root(), n+1, proof); got != (i == before) {
					t.Errorf("the extension of %d to %d records connects the root of %d records: %v", before, n, i, got)
				}
			}
		}
	}
}

// P9.5: no extension connects a log to one of which a record or a state was another one.
func TestOtherHistory(t *testing.T) {
	r := source(32)
	const n = 16
	state := randomBytes(r)
	for at := range n {
		a, _ := logtree.New(state)
		b, _ := logtree.New(state)
		if at == 0 {
			b, _ = logtree.New(randomBytes(r))
		}
		m, other := newModel(state), &model{}
		first, _ := b.Head(0)
		other.heads, other.records = []api.Head{first}, []api.Record{{}}
		for p := 1; p < n; p++ {
			record, state := randomRecord(r, p), randomBytes(r)
			mustAppend(t, a, m, record, state)
			if p == at && p%2 == 0 {
				record = randomRecord(r, p)
			} else if p == at {
				state = randomBytes(r)
			}
			mustAppend(t, b, other, record, state)
			if p < at {
				continue
			}
			for before := at; before < p; before++ {
				old := refRoot(m.heads[:before+1])
				for _, x := range []*logtree.Log{a, b} {
					proof, _ := x.Extension(before)
					if digest.VerifyExtension(old, before+1, b.Root(), p+1, proof) {
						t.Errorf("a log with another history at %d extends %d to %d records", at, before, p)
					}
				}
			}
		}
	}
}
