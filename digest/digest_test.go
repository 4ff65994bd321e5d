package digest_test

import (
	"math"
	"math/bits"
	"slices"
	"strconv"
	"strings"
	"testing"

	"cachetier/api"
	"cachetier/digest"
)

const most = 40 // the lists of all lengths up to this one are tried

func entries(n int) []string {
	l := make([]string, n)
	for i := range l {
		l[i] = "entry " + strconv.Itoa(i)
	}
	return l
}

func refLeaf(s string) string    { return referenceSum("\x00", s) }
func refNode(a, b string) string { return referenceSum("\x01", a, b) }

// levels returns the digests of the tree of l from the leaves to the root. Neighbours are joined in pairs; one without a neighbour rises as it is. This is the same tree as that of the chapter, which splits from above.
func levels(l []string) [][]string {
	level := []string{}
	for _, s := range l {
		level = append(level, refLeaf(s))
	}
	all := [][]string{level}
	for len(level) > 1 {
		next := []string{}
		for pair := range slices.Chunk(level, 2) {
			if len(pair) == 2 {
				next = append(next, refNode(pair[0], pair[1]))
			} else {
				next = append(next, pair[0])
			}
		}
		all = append(all, next)
		level = next
	}
	return all
}

func refRoot(l []string) string {
	if len(l) == 0 {
		return referenceSum()
	}
	all := levels(l)
	return all[len(all)-1][0]
}

// siblings returns the neighbours on the way from the digest with the index i of the first level to the root.
func siblings(all [][]string, i int) []string {
	list := []string{}
	for _, level := range all {
		if i^1 < len(level) {
			list = append(list, level[i^1])
		}
		i /= 2
	}
	return list
}

// refExtension follows RFC 9162: the greatest tree that ends with entry m - 1, if it is not all of the first m entries, and the neighbours on the way from it to the root.
func refExtension(l []string, m int) []string {
	if m == 0 || m == len(l) {
		return nil
	}
	all := levels(l)
	i, height := m-1, 0
	for i%2 == 1 {
		i, height = i/2, height+1
	}
	list := []string{}
	if i > 0 {
		list = append(list, all[height][i])
	}
	return append(list, siblings(all[height:], i)...)
}

// refRise follows section 2.1.3.2 of RFC 9162 from a digest with the index i, of n on its level, to the root. It returns the root of the list and that of the part of the list that ends with the digest.
func refRise(before, after string, n, i int, proof []string) (string, string, bool) {
	last := n - 1
	for _, p := range proof {
		if last == 0 {
			return "", "", false
		}
		if i%2 == 1 || i == last {
			before, after = refNode(p, before), refNode(p, after)
			for i%2 == 0 && i != 0 {
				i, last = i/2, last/2
			}
		} else {
			after = refNode(after, p)
		}
		i, last = i/2, last/2
	}
	return before, after, last == 0
}

func areDigests(l ...string) bool {
	return !slices.ContainsFunc(l, func(s string) bool { return len(s) != 32 })
}

func refVerify(root string, n, i int, s string, proof []string) bool {
	if i < 0 || i >= n || !areDigests(proof...) {
		return false
	}
	_, value, ok := refRise(refLeaf(s), refLeaf(s), n, i, proof)
	return ok && value == root
}

// refTwo returns the two values of m, n and the proof, for m from 1 to n - 1.
func refTwo(old string, m, n int, proof []string) (string, string, bool) {
	if bits.OnesCount(uint(m)) == 1 {
		proof = append([]string{old}, proof...)
	}
	if len(proof) == 0 {
		return "", "", false
	}
	shift := bits.TrailingZeros(uint(m))
	return refRise(proof[0], proof[0], (n-1)>>shift+1, (m-1)>>shift, proof[1:])
}

func refVerifyExtension(old string, m int, root string, n int, proof []string) bool {
	if m < 0 || m > n || !areDigests(old, root) || !areDigests(proof...) {
		return false
	}
	switch m {
	case 0:
		return len(proof) == 0 && old == referenceSum()
	case n:
		return len(proof) == 0 && old == root
	}
	before, after, ok := refTwo(old, m, n, proof)
	return ok && before == old && after == root
}

// variants returns proofs that differ from p a little, and p itself.
func variants(p []string) [][]string {
	x := digest.Sum("x")
	all := [][]string{p, nil, append(slices.Clone(p), x), append([]string{x}, p...), append(slices.Clone(p), p...)}
	for i := range p {
		all = append(all, slices.Delete(slices.Clone(p), i, i+1), slices.Insert(slices.Clone(p), i, p[i]))
		flipped := p[i][:7] + string([]byte{p[i][7] ^ 1}) + p[i][8:]
		for _, s := range []string{x, flipped, "", p[i][:31], p[i] + "x", p[i] + p[i]} {
			q := slices.Clone(p)
			q[i] = s
			all = append(all, q)
		}
		if i > 0 {
			q := slices.Clone(p)
			q[i-1], q[i] = q[i], q[i-1]
			all = append(all, q)
		}
	}
	return all
}

// P2.1
func TestRoot(t *testing.T) {
	wantSum(t, "the root of nothing", digest.Root(nil), referenceSum())
	wantSum(t, "the root of nothing", digest.Root([]string{}), referenceSum())
	wantSum(t, "the root of an empty entry", digest.Root([]string{""}), referenceSum("\x00"))
	for n := range 300 {
		l := entries(n)
		wantSum(t, "Root of "+strconv.Itoa(n), digest.Root(l), refRoot(l))
	}
	r := source()
	for range 100 {
		l := entries(r.IntN(3000))
		for i := range l {
			l[i] = randomString(r, r.IntN(5))
		}
		wantSum(t, "Root", digest.Root(l), refRoot(l))
	}
}

// P2.1, P2.2
func TestProof(t *testing.T) {
	for n := 1; n <= most; n++ {
		l := entries(n)
		all := levels(l)
		for i := range n {
			p, e := digest.Proof(l, i)
			if e != api.OK || !slices.Equal(p, siblings(all, i)) {
				t.Errorf("Proof of %d, %d: %d elements, error %d", n, i, len(p), e)
			}
			if !digest.Verify(refRoot(l), n, i, l[i], p) {
				t.Errorf("Verify refuses the proof of %d, %d", n, i)
			}
			if len(p) > bits.Len(uint(n)) {
				t.Errorf("the proof of %d, %d has %d elements", n, i, len(p))
			}
		}
	}
}

// P2.1: the examples of the chapter.
func TestExamples(t *testing.T) {
	l := []string{"a", "b", "c"}
	p, e := digest.Proof(l, 2)
	if want := []string{digest.Node(digest.Leaf("a"), digest.Leaf("b"))}; e != api.OK || !slices.Equal(p, want) {
		t.Errorf("Proof: %x, %d", p, e)
	}
	p, e = digest.Extension(l, 1)
	if want := []string{digest.Leaf("b"), digest.Leaf("c")}; e != api.OK || !slices.Equal(p, want) {
		t.Errorf("Extension: %x, %d", p, e)
	}
}

// P2.1, P2.2
func TestExtension(t *testing.T) {
	for n := range most + 1 {
		l := entries(n)
		for m := range n + 1 {
			p, e := digest.Extension(l, m)
			if e != api.OK || !slices.Equal(p, refExtension(l, m)) {
				t.Errorf("Extension of %d, %d: %d elements, error %d", n, m, len(p), e)
			}
			if !digest.VerifyExtension(refRoot(l[:m]), m, refRoot(l), n, p) {
				t.Errorf("VerifyExtension refuses the proof of %d, %d", n, m)
			}
			if len(p) > 2*bits.Len(uint(n)) {
				t.Errorf("the extension of %d, %d has %d elements", n, m, len(p))
			}
		}
	}
}

// P2.2: long lists.
func TestLongLists(t *testing.T) {
	r := source()
	for _, n := range []int{1023, 1024, 1025, 2000, 10000} {
		l := entries(n)
		root := digest.Root(l)
		for range 20 {
			i := r.IntN(n)
			p, e := digest.Proof(l, i)
			if e != api.OK || len(p) > bits.Len(uint(n)) || !digest.Verify(root, n, i, l[i], p) {
				t.Errorf("Proof of %d, %d: %d elements, error %d", n, i, len(p), e)
			}
			p, e = digest.Extension(l, i)
			if e != api.OK || len(p) > 2*bits.Len(uint(n)) || !digest.VerifyExtension(digest.Root(l[:i]), i, root, n, p) {
				t.Errorf("Extension of %d, %d: %d elements, error %d", n, i, len(p), e)
			}
		}
	}
}

// P2.1: indices and numbers of entries that are none.
func TestArguments(t *testing.T) {
	for n := range 10 {
		l := entries(n)
		for _, i := range []int{-1, -2, n, n + 1, math.MinInt, math.MaxInt} {
			if p, e := digest.Proof(l, i); len(p) != 0 || e != api.ErrArg {
				t.Errorf("Proof of %d, %d: %d elements, error %d", n, i, len(p), e)
			}
			if i == n {
				continue
			}
			if p, e := digest.Extension(l, i); len(p) != 0 || e != api.ErrArg {
				t.Errorf("Extension of %d, %d: %d elements, error %d", n, i, len(p), e)
			}
		}
	}
	for _, l := range [][]string{nil, {}} {
		if p, e := digest.Proof(l, 0); len(p) != 0 || e != api.ErrArg {
			t.Errorf("Proof of no entries: %d elements, error %d", len(p), e)
		}
		if p, e := digest.Extension(l, 0); len(p) != 0 || e != api.OK {
			t.Errorf("Extension of no entries: %d elements, error %d", len(p), e)
		}
	}
}

// P2.1: Verify accepts what its definition accepts, and nothing else, near all that Proof returns.
func TestVerify(t *testing.T) {
	for n := 1; n <= 18; n++ {
		l := entries(n)
		root := digest.Root(l)
		for i := range n {
			p, _ := digest.Proof(l, i)
			for _, q := range variants(p) {
				for claimedN := -1; claimedN <= n+2; claimedN++ {
					for claimedI := max(-1, i-2); claimedI <= i+2; claimedI++ {
						if got, want := digest.Verify(root, claimedN, claimedI, l[i], q), refVerify(root, claimedN, claimedI, l[i], q); got != want {
							t.Fatalf("Verify of %d, %d by a proof of %d, %d: %t", claimedN, claimedI, n, i, got)
						}
					}
				}
			}
		}
	}
}

// P2.3: no entry but the one with the index is accepted, by any proof or change of one, nor a root of another length.
func TestBinding(t *testing.T) {
	for n := 1; n <= 9; n++ {
		l := entries(n)
		root := digest.Root(l)
		others := append(slices.Clone(l), "", "x", root, digest.Leaf(l[0]), "\x00"+l[0])
		proofs := [][]string{}
		for i := range n {
			p, _ := digest.Proof(l, i)
			proofs = append(proofs, variants(p)...)
		}
		for i := range n {
			good, _ := digest.Proof(l, i)
			for _, p := range proofs {
				for _, s := range others {
					if digest.Verify(root, n, i, s, p) != (s == l[i] && slices.Equal(p, good)) {
						t.Fatalf("Verify of %q as %d of %d", s, i, n)
					}
				}
			}
			for _, other := range []string{"", root[:31], root + "x", digest.Root(entries(n + 1))} {
				if digest.Verify(other, n, i, l[i], good) {
					t.Errorf("Verify of %d, %d accepts the root %x", n, i, other)
				}
			}
		}
	}
}

// P2.3: the inside of a tree is not accepted as an entry.
func TestInnerNodesAreNoEntries(t *testing.T) {
	l := []string{"a", "b", "c", "d"}
	a, b := digest.Leaf("a"), digest.Leaf("b")
	right := digest.Node(digest.Leaf("c"), digest.Leaf("d"))
	for _, s := range []string{a + b, "\x01" + a + b, "\x00" + a + b, digest.Node(a, b)} {
		if digest.Verify(digest.Root(l), 2, 0, s, []string{right}) {
			t.Errorf("Verify accepts %x", s)
		}
	}
}

// P2.1: VerifyExtension accepts what its definition accepts, and nothing else, near all that Extension returns.
func TestVerifyExtension(t *testing.T) {
	for n := range 14 {
		l := entries(n)
		root := digest.Root(l)
		for m := range n + 1 {
			p, _ := digest.Extension(l, m)
			old := digest.Root(l[:m])
			for _, q := range variants(p) {
				for claimedN := -1; claimedN <= n+2; claimedN++ {
					for claimedM := max(-1, m-2); claimedM <= m+2; claimedM++ {
						if got, want := digest.VerifyExtension(old, claimedM, root, claimedN, q), refVerifyExtension(old, claimedM, root, claimedN, q); got != want {
							t.Fatalf("VerifyExtension of %d, %d by a proof of %d, %d: %t", claimedN, claimedM, n, m, got)
						}
					}
				}
			}
		}
	}
}

// P2.4: no beginning but the true one is accepted, by any proof or change of one.
func TestExtensionBinding(t *testing.T) {
	for n := range 9 {
		l := entries(n)
		root := digest.Root(l)
		olds := []string{digest.Sum("x"), digest.Root([]string{"", "x"}), root[1:] + "x"}
		proofs := [][]string{}
		for m := range n + 1 {
			olds = append(olds, digest.Root(l[:m]))
			p, _ := digest.Extension(l, m)
			proofs = append(proofs, variants(p)...)
		}
		for m := range n + 1 {
			good, _ := digest.Extension(l, m)
			for _, p := range proofs {
				for _, old := range olds {
					if digest.VerifyExtension(old, m, root, n, p) != (old == digest.Root(l[:m]) && slices.Equal(p, good)) {
						t.Fatalf("VerifyExtension of %d, %d", n, m)
					}
				}
			}
		}
	}
}

// P2.1: strings that are no digests, where lengths of the proof are right.
func TestExtensionDigests(t *testing.T) {
	empty, root := digest.Sum(""), digest.Sum("some root")
	for _, c := range []struct {
		old   string
		m     int
		root  string
		n     int
		proof []string
		ok    bool
	}{
		{empty, 0, root, 5, nil, true}, // whatever n and the root are
		{empty, 0, root, 0, []string{}, true},
		{empty, 0, empty, 0, nil, true},
		{empty, 0, root, math.MaxInt, nil, true},
		{empty, 0, "", 5, nil, false},
		{empty, 0, root[:31], 5, nil, false},
		{empty, 0, root + "x", 0, nil, false},
		{empty, 0, root, 5, []string{root}, false},
		{empty, 0, root, 5, []string{""}, false},
		{empty, 0, root, -1, nil, false},
		{root, 0, root, 5, nil, false},
		{"", 0, root, 5, nil, false},
		{root, 0, root, 0, nil, false},
		{root, 5, root, 5, nil, true},
		{root, math.MaxInt, root, math.MaxInt, nil, true},
		{empty, 5, root, 5, nil, false},
		{root, 5, root, 5, []string{root}, false},
		{"", 5, "", 5, nil, false},
		{root[:31], 5, root[:31], 5, nil, false},
		{root + "x", 5, root + "x", 5, nil, false},
		{root, 6, root, 5, nil, false},
		{root, -1, root, 5, nil, false},
		{root, -1, root, -1, nil, false},
		{empty, math.MinInt, root, math.MinInt, nil, false},
		{"", 1, digest.Node("", root), 2, []string{root}, false},
		{root, 1, digest.Node(root, ""), 2, []string{""}, false},
		{root, 1, digest.Node(root, root), 2, []string{root}, true},
	} {
		if got := digest.VerifyExtension(c.old, c.m, c.root, c.n, c.proof); got != c.ok {
			t.Errorf("VerifyExtension(%x, %d, %x, %d, %x) = %t", c.old, c.m, c.root, c.n, c.proof, got)
		}
	}
	if digest.Verify(digest.Node(digest.Leaf("a"), ""), 2, 0, "a", []string{""}) {
		t.Error("Verify accepts an element that is no digest")
	}
}

const longest = 70 // no proof has so many elements

func digests(n int) []string {
	l := entries(n)
	for i := range l {
		l[i] = digest.Sum(l[i])
	}
	return l
}

func hugeNumbers() []int {
	list := []int{1, 2, 3, math.MaxInt, math.MaxInt - 1, api.MaxInt, api.MaxInt + 1, api.MaxInt + 2}
	for _, shift := range []int{32, 61} {
		list = append(list, 1<<shift-1, 1<<shift, 1<<shift+1, 3<<(shift-1))
	}
	r := source()
	for range 4 {
		list = append(list, 1+r.IntN(math.MaxInt)>>r.IntN(60))
	}
	return list
}

// P2.1: lists that are longer than memory have proofs, which only the right number of elements makes.
func TestHugeVerify(t *testing.T) {
	elements, wrong := digests(longest), digest.Sum("x")
	for _, n := range hugeNumbers() {
		for _, i := range hugeNumbers() {
			i--
			accepted := 0
			for length := range longest {
				proof := elements[:length]
				_, root, ok := refRise(refLeaf("s"), refLeaf("s"), n, i, proof)
				ok = ok && i < n
				if ok {
					accepted++
				}
				if digest.Verify(root, n, i, "s", proof) != ok || digest.Verify(wrong, n, i, "s", proof) {
					t.Fatalf("Verify of %d, %d by %d elements; want %t", n, i, length, ok)
				}
			}
			if i < n && accepted != 1 {
				t.Fatalf("proofs of %d lengths are accepted for %d, %d", accepted, n, i)
			}
		}
	}
}

// P2.1
func TestHugeVerifyExtension(t *testing.T) {
	elements, old, wrong := digests(longest), digest.Sum("old"), digest.Sum("x")
	for _, n := range hugeNumbers() {
		for _, m := range hugeNumbers() {
			accepted := 0
			for length := range longest {
				proof := elements[:length]
				before, after, ok := "", "", false
				if m < n {
					before, after, ok = refTwo(old, m, n, proof)
				}
				if ok {
					accepted++
				}
				if digest.VerifyExtension(before, m, after, n, proof) != ok || digest.VerifyExtension(wrong, m, after, n, proof) || digest.VerifyExtension(before, m, wrong, n, proof) {
					t.Fatalf("VerifyExtension of %d, %d by %d elements; want %t", n, m, length, ok)
				}
			}
			if m < n && accepted != 1 {
				t.Fatalf("proofs of %d lengths are accepted for %d, %d", accepted, n, m)
			}
		}
	}
}

// P2.1: arguments that no definition speaks of are refused and end the call.
func TestAnyArguments(t *testing.T) {
	numbers := []int{math.MinInt, math.MinInt + 1, -1, 0, 1, 2, 3, math.MaxInt - 1, math.MaxInt}
	strs := []string{"", "x", digest.Sum(""), strings.Repeat("x", 1000)}
	proofs := [][]string{nil, {""}, {digest.Sum("")}, digests(longest), entries(longest)}
	for _, n := range numbers {
		for _, i := range numbers {
			for _, s := range strs {
				for _, p := range proofs {
					if digest.Verify(s, n, i, s, p) {
						t.Errorf("Verify(%q, %d, %d, %q, %q)", s, n, i, s, p)
					}
					if got, want := digest.VerifyExtension(s, i, s, n, p), refVerifyExtension(s, i, s, n, p); got != want {
						t.Errorf("VerifyExtension(%q, %d, %q, %d, %q) = %t", s, i, s, n, p, got)
					}
				}
			}
		}
	}
}

// withSpare returns a copy of l with spare capacity, and a function that reports whether the copy and what lies behind it are as they were.
func withSpare(l []string) ([]string, func() bool) {
	whole := append(slices.Clone(l), "spare", "spare", "spare", "spare")
	before := slices.Clone(whole)
	return whole[:len(l)], func() bool { return slices.Equal(whole, before) }
}

// P2.1, with R3: arguments stay as they are, and results are new.
func TestMemory(t *testing.T) {
	for n := 1; n <= 12; n++ {
		l, same := withSpare(entries(n))
		root := digest.Root(l)
		for i := range n {
			first, _ := digest.Proof(l, i)
			p, pSame := withSpare(first)
			digest.Verify(root, n, i, l[i], p)
			clear(first[:cap(first)])
			second, _ := digest.Proof(l, i)
			firstE, _ := digest.Extension(l, i)
			q, qSame := withSpare(firstE)
			digest.VerifyExtension(digest.Root(l[:i]), i, root, n, q)
			clear(firstE[:cap(firstE)])
			secondE, _ := digest.Extension(l, i)
			if !same() || !pSame() || !qSame() || !slices.Equal(second, p) || !slices.Equal(secondE, q) {
				t.Errorf("memory is shared or changed for %d, %d", n, i)
			}
		}
	}
}
