package logtree_test

import (
	"crypto/sha256"
	"encoding/binary"
	"math"
	"math/rand/v2"
	"reflect"
	"slices"
	"strings"
	"testing"

	"cachetier/api"
	"cachetier/logtree"
	"cachetier/row"
)

// The references below follow the chapter in another way than the package: with the standard library's SHA-256 and varints, with trees that are built level by level and climbed from below, and with bounds written out.

func in(n, low, high int) bool { return n >= low && n <= high }

// sha is SHA-256 of the parts, one after the other.
func sha(parts ...string) string {
	sum := sha256.Sum256([]byte(strings.Join(parts, "")))
	return string(sum[:])
}

var zeros = string(make([]byte, 32))

func refValid(h api.Head) bool {
	return in(h.Position, 0, 10000) && len(h.Chain) == 32 && len(h.State) == 32
}

func refValidRow(table, key int, v [3]int) bool {
	return in(table, 0, 3) && in(key, 1, 1000000) && in(v[0], -1000000000, 1000000000) && in(v[1], -1000000000, 1000000000) && in(v[2], -1000000000, 1000000000)
}

func refValidChange(c api.Change) bool {
	old, new := refValidRow(c.Table, c.Key, c.Old), refValidRow(c.Table, c.Key, c.New)
	switch {
	case c.Had && c.Has:
		return old && new && c.Old != c.New
	case c.Had:
		return old && c.New == [3]int{}
	}
	return c.Has && new && c.Old == [3]int{}
}

func refValidRecord(r api.Record) bool {
	for i, c := range r.Changes {
		if !refValidChange(c) || i > 0 && place(r.Changes[i-1]) >= place(c) {
			return false
		}
	}
	return in(r.Position, 1, 10000) && in(len(r.Changes), 1, 8)
}

// place orders valid changes: keys have at most 7 digits.
func place(c api.Change) int { return c.Table*10000000 + c.Key }

// refCode returns the encoding of a valid record.
func refCode(r api.Record) string {
	numbers := []int{r.Position, len(r.Changes)}
	for _, c := range r.Changes {
		switch {
		case c.Had && c.Has:
			numbers = append(append(append(numbers, c.Table, c.Key, 3), c.Old[:]...), c.New[:]...)
		case c.Had:
			numbers = append(append(numbers, c.Table, c.Key, 1), c.Old[:]...)
		default:
			numbers = append(append(numbers, c.Table, c.Key, 2), c.New[:]...)
		}
	}
	var code []byte
	for _, n := range numbers {
		code = binary.AppendVarint(code, int64(n))
	}
	return string(code)
}

func refEncode(h api.Head) string {
	return string(binary.AppendVarint(nil, int64(h.Position))) + h.Chain + h.State
}

func refDecode(s string) (api.Head, api.Errno) {
	n, size := binary.Varint([]byte(s))
	if size <= 0 || !in(int(n), -api.MaxInt, api.MaxInt) || size != len(binary.AppendVarint(nil, n)) || len(s) != size+64 {
		return api.Head{}, api.ErrWire
	}
	if !in(int(n), 0, 10000) {
		return api.Head{}, api.ErrLog
	}
	return api.Head{Position: int(n), Chain: s[size : size+32], State: s[size+32:]}, api.OK
}

func refNext(h api.Head, r api.Record, state string) (api.Head, api.Errno) {
	if !refValid(h) || !refValidRecord(r) || r.Position-1 != h.Position || len(state) != 32 {
		return api.Head{}, api.ErrLog
	}
	return api.Head{Position: r.Position, Chain: sha("\x02", h.Chain, refCode(r)), State: state}, api.OK
}

// refFollows asks one thing after the other, as the chapter does.
func refFollows(a api.Head, l []api.Record, b api.Head) bool {
	if !refValid(a) || !refValid(b) {
		return false
	}
	if len(l) == 0 {
		return a.Position == b.Position && a.Chain == b.Chain && a.State == b.State
	}
	chain := a.Chain
	for i, r := range l {
		if !refValidRecord(r) || r.Position != a.Position+1+i {
			return false
		}
		chain = sha("\x02", chain, refCode(r))
	}
	return l[len(l)-1].Position == b.Position && chain == b.Chain
}

// refLevels returns the digests of the tree over the heads from the leaves to the root. Neighbours are joined in pairs; one without a neighbour rises as it is.
func refLevels(heads []api.Head) [][]string {
	var level []string
	for _, h := range heads {
		level = append(level, sha("\x00", refEncode(h)))
	}
	all := [][]string{level}
	for len(level) > 1 {
		var next []string
		for pair := range slices.Chunk(level, 2) {
			if len(pair) == 2 {
				next = append(next, sha("\x01", pair[0], pair[1]))
			} else {
				next = append(next, pair[0])
			}
		}
		all = append(all, next)
		level = next
	}
	return all
}

func refRoot(heads []api.Head) string {
	all := refLevels(heads)
	return all[len(all)-1][0]
}

// refPath returns the neighbours on the way from the digest with the index i of the first level to the root.
func refPath(all [][]string, i int) []string {
	var list []string
	for _, level := range all {
		if i^1 < len(level) {
			list = append(list, level[i^1])
		}
		i /= 2
	}
	return list
}

// refExtension follows RFC 9162, for the first m of the heads: the greatest tree that ends with the head m - 1, if it is not all of the first m, and the neighbours on the way from it to the root.
func refExtension(heads []api.Head, m int) []string {
	if m == len(heads) {
		return nil
	}
	all := refLevels(heads)
	i, height := m-1, 0
	for i%2 == 1 {
		i, height = i/2, height+1
	}
	var list []string
	if i > 0 {
		list = append(list, all[height][i])
	}
	return append(list, refPath(all[height:], i)...)
}

// refVerify follows section 2.1.3.2 of RFC 9162 from the head to the root.
func refVerify(root string, n int, h api.Head, path []string) bool {
	if !in(n, 0, 10000) || !refValid(h) || h.Position > n {
		return false
	}
	value, i, last := sha("\x00", refEncode(h)), h.Position, n
	for _, p := range path {
		if len(p) != 32 || last == 0 {
			return false
		}
		if i%2 == 1 || i == last {
			value = sha("\x01", p, value)
			for i%2 == 0 && i != 0 {
				i, last = i/2, last/2
			}
		} else {
			value = sha("\x01", value, p)
		}
		i, last = i/2, last/2
	}
	return last == 0 && value == root
}

// model is a log: its heads, by position, and its records, of which the first one is a zero record.
type model struct {
	heads   []api.Head
	records []api.Record
}

func newModel(state string) *model {
	return &model{heads: []api.Head{{Chain: zeros, State: state}}, records: []api.Record{{}}}
}

func (m *model) append(r api.Record, state string) api.Errno {
	h, err := refNext(m.heads[len(m.heads)-1], r, state)
	if err == api.OK {
		m.heads, m.records = append(m.heads, h), append(m.records, cloned(r))
	}
	return err
}

func (m *model) len() int { return len(m.heads) - 1 }

func source(n uint64) *rand.Rand { return rand.New(rand.NewPCG(9, n)) }

func pick(r *rand.Rand, list ...int) int { return list[r.IntN(len(list))] }

// randomBytes returns a random string, of 32 bytes if nothing else is asked for.
func randomBytes(r *rand.Rand, n ...int) string {
	b := make([]byte, append(n, 32)[0])
	for i := range b {
		b[i] = byte(r.Uint32())
	}
	return string(b)
}

func cloned(r api.Record) api.Record {
	return api.Record{Position: r.Position, Changes: append([]api.Change(nil), r.Changes...)}
}

func randomValues(r *rand.Rand) [3]int {
	var v [3]int
	for i := range v {
		v[i] = pick(r, 0, 1, r.IntN(2000000001)-1000000000, 1000000000, -1000000000)
	}
	return v
}

func randomChange(r *rand.Rand) api.Change {
	c := api.Change{Table: r.IntN(4), Key: pick(r, 1, 1+r.IntN(1000000), 1000000)}
	c.Had = r.IntN(2) == 0
	c.Has = !c.Had || r.IntN(2) == 0
	for !refValidChange(c) {
		if c.Had {
			c.Old = randomValues(r)
		}
		if c.Has {
			c.New = randomValues(r)
		}
	}
	return c
}

// randomRecord returns a valid record for the position p from 1 to 10000.
func randomRecord(r *rand.Rand, p int) api.Record {
	x := api.Record{Position: p}
	for range 1 + r.IntN(8) {
		x.Changes = append(x.Changes, randomChange(r))
	}
	slices.SortFunc(x.Changes, func(a, b api.Change) int { return place(a) - place(b) })
	x.Changes = slices.CompactFunc(x.Changes, func(a, b api.Change) bool { return place(a) == place(b) })
	return x
}

func randomHead(r *rand.Rand, p int) api.Head {
	return api.Head{Position: p, Chain: randomBytes(r), State: randomBytes(r)}
}

// badRecords returns records for the position p that are not valid, or that are of another position.
func badRecords(r *rand.Rand, p int) []api.Record {
	list := []api.Record{{}, {Position: p}, {Position: p, Changes: []api.Change{}}}
	for _, other := range []int{p - 1, p + 1, p + 2, -p, 0, 1, -1, 10000, 10001, math.MaxInt, math.MinInt} {
		if x := randomRecord(r, other); other != p {
			list = append(list, x)
		}
	}
	nine := api.Record{Position: p}
	for key := 1; key <= 9; key++ {
		nine.Changes = append(nine.Changes, api.Change{Key: key, Has: true})
	}
	for _, changes := range [][]api.Change{
		nine.Changes,
		{{Table: 1, Key: 5}},
		{{Table: 1, Key: 5, Has: true, Old: [3]int{1}}},
		{{Table: 1, Key: 5, Had: true, New: [3]int{1}}},
		{{Table: 1, Key: 5, Had: true, Old: [3]int{1}, Has: true, New: [3]int{1}}},
		{{Table: 4, Key: 5, Has: true}},
		{{Table: -1, Key: 5, Has: true}},
		{{Table: 1, Has: true}},
		{{Table: 1, Key: 1000001, Has: true}},
		{{Table: 1, Key: 5, Has: true, New: [3]int{0, 0, 1000000001}}},
		{{Table: 1, Key: 5, Had: true, Old: [3]int{-1000000001}}},
		{{Key: 5, Has: true}, {Key: 5, Has: true}},
		{{Key: 5, Has: true}, {Key: 4, Has: true}},
		{{Table: 1, Key: 5, Has: true}, {Key: 6, Has: true}},
		{{Key: 5, Has: true}, {}},
	} {
		list = append(list, api.Record{Position: p, Changes: changes})
	}
	return list
}

// badHeads returns heads that are not valid: h with another position, or a part of another length. The last ones have the encoding of h.
func badHeads(h api.Head) []api.Head {
	list := []api.Head{{}, {Position: h.Position}, {Position: h.Position, Chain: h.Chain}, {Position: h.Position, State: h.State}}
	for _, p := range []int{-1, -2, 10001, 10002, math.MaxInt, math.MinInt, 1 << 32, api.MaxInt} {
		list = append(list, api.Head{Position: p, Chain: h.Chain, State: h.State})
	}
	for _, s := range []string{"", "x", h.Chain[:31], h.Chain + "x", h.Chain + h.Chain} {
		list = append(list, api.Head{Position: h.Position, Chain: s, State: h.State}, api.Head{Position: h.Position, Chain: h.Chain, State: s})
	}
	both := h.Chain + h.State
	for _, n := range []int{0, 1, 31, 33, 63, 64} {
		list = append(list, api.Head{Position: h.Position, Chain: both[:n], State: both[n:]})
	}
	return list
}

// near returns valid heads that differ from h a little.
func near(h api.Head) []api.Head {
	flip := func(s string, i int) string { return s[:i] + string([]byte{s[i] ^ 1}) + s[i+1:] }
	list := []api.Head{{Position: h.Position, Chain: zeros, State: zeros}}
	for _, i := range []int{0, 15, 31} {
		list = append(list, api.Head{Position: h.Position, Chain: flip(h.Chain, i), State: h.State}, api.Head{Position: h.Position, Chain: h.Chain, State: flip(h.State, i)})
	}
	if h.Chain != h.State {
		list = append(list, api.Head{Position: h.Position, Chain: h.State, State: h.Chain})
	}
	for _, p := range []int{h.Position - 1, h.Position + 1, 0, 10000, h.Position ^ 64} {
		if p != h.Position && in(p, 0, 10000) {
			list = append(list, api.Head{Position: p, Chain: h.Chain, State: h.State})
		}
	}
	return list
}

// notDigests returns strings that cannot be a state.
func notDigests(r *rand.Rand) []string {
	return []string{"", "short", randomBytes(r, 31), randomBytes(r, 33), randomBytes(r, 64), randomBytes(r, 1000)}
}

// grown returns a log of n random records, and its model.
func grown(t *testing.T, r *rand.Rand, n int) (*logtree.Log, *model) {
	t.Helper()
	state := randomBytes(r)
	x, err := logtree.New(state)
	if err != api.OK {
		t.Fatalf("New = %d", err)
	}
	m := newModel(state)
	for p := 1; p <= n; p++ {
		mustAppend(t, x, m, randomRecord(r, p), randomBytes(r))
	}
	return x, m
}

func mustAppend(t *testing.T, x *logtree.Log, m *model, record api.Record, state string) {
	t.Helper()
	if err, want := x.Append(record, state), m.append(record, state); err != want || err != api.OK {
		t.Fatalf("Append(%v) = %d, want %d", record, err, want)
	}
}

// wantHeads compares the length, heads and records of a log and its model, also beside the positions of the log.
func wantHeads(t *testing.T, x *logtree.Log, m *model) {
	t.Helper()
	if got := x.Len(); got != m.len() {
		t.Fatalf("Len = %d, want %d", got, m.len())
	}
	for p := range m.heads {
		if h, ok := x.Head(p); h != m.heads[p] || !ok {
			t.Fatalf("Head(%d) = %v, %v; want %v", p, h, ok, m.heads[p])
		}
		if got, ok := x.Record(p); p > 0 && (!reflect.DeepEqual(got, m.records[p]) || !row.Same(got, m.records[p]) || !ok) {
			t.Fatalf("Record(%d) = %v, %v; want %v", p, got, ok, m.records[p])
		}
	}
	for _, p := range beside(m) {
		if h, ok := x.Head(p); h != (api.Head{}) || ok {
			t.Fatalf("Head(%d) = %v, %v", p, h, ok)
		}
	}
	for _, p := range append(beside(m), 0) {
		if got, ok := x.Record(p); got.Position != 0 || len(got.Changes) > 0 || ok {
			t.Fatalf("Record(%d) = %v, %v", p, got, ok)
		}
	}
}

// beside returns numbers that are no positions of heads.
func beside(m *model) []int {
	n := m.len()
	return []int{-1, -2, -n - 1, n + 1, n + 2, 2*n + 2, 10001, math.MinInt, math.MinInt + 1, math.MaxInt, math.MaxInt - 1}
}

// wantProofs compares the root of a log, and its proofs for a position, with those of the model.
func wantProofs(t *testing.T, x *logtree.Log, m *model, p int) {
	t.Helper()
	all := refLevels(m.heads)
	if got, want := x.Root(), all[len(all)-1][0]; got != want {
		t.Fatalf("Root of %d records = %x, want %x", m.len(), got, want)
	}
	path, err := x.Prove(p)
	if err != api.OK || !slices.Equal(path, refPath(all, p)) {
		t.Fatalf("Prove(%d) of %d records: %d digests, %d", p, m.len(), len(path), err)
	}
	proof, err := x.Extension(p)
	if err != api.OK || !slices.Equal(proof, refExtension(m.heads, p+1)) {
		t.Fatalf("Extension(%d) of %d records: %d digests, %d", p, m.len(), len(proof), err)
	}
}

// wantNoProofs requires that there are no proofs for positions that have no head.
func wantNoProofs(t *testing.T, x *logtree.Log, m *model) {
	t.Helper()
	for _, p := range beside(m) {
		if path, err := x.Prove(p); len(path) > 0 || err != api.ErrArg {
			t.Fatalf("Prove(%d) of %d records: %d digests, %d", p, m.len(), len(path), err)
		}
		if proof, err := x.Extension(p); len(proof) > 0 || err != api.ErrArg {
			t.Fatalf("Extension(%d) of %d records: %d digests, %d", p, m.len(), len(proof), err)
		}
	}
}
