package digest_test

import (
	"crypto/sha256"
	"encoding/hex"
	"math/rand/v2"
	"slices"
	"strings"
	"testing"

	"cachetier/api"
	"cachetier/digest"
)

func source() *rand.Rand {
	return rand.New(rand.NewPCG(3, 4))
}

func randomString(r *rand.Rand, n int) string {
	b := make([]byte, n)
	for i := range b {
		b[i] = byte(r.Uint32())
	}
	return string(b)
}

// referenceSum is the standard library's SHA-256.
func referenceSum(parts ...string) string {
	sum := sha256.Sum256([]byte(strings.Join(parts, "")))
	return string(sum[:])
}

func wantSum(t *testing.T, name, got, want string) {
	t.Helper()
	if got != want {
		t.Errorf("%s = %x, want %x", name, got, want)
	}
}

// P2.1: the values that the chapter gives, and those of FIPS 180-4's examples.
func TestSumValues(t *testing.T) {
	for s, want := range map[string]string{
		"":    "e3b0c44298fc1c149afbf4c8996fb92427ae41e4649b934ca495991b7852b855",
		"abc": "ba7816bf8f01cfea414140de5dae2223b00361a396177a9cb410ff61f20015ad",
		"abcdbcdecdefdefgefghfghighijhijkijkljklmklmnlmnomnopnopq": "248d6a61d20638b8e5c026930c3e6039a33ce45964ff2167f6ecedd419db06c1",
		strings.Repeat("a", 1_000_000):                             "cdc76e5c9914fb9281a1c7e284d73e67f1809a48a497200e046d39ccc7112cd0",
	} {
		if got := hex.EncodeToString([]byte(digest.Sum(s))); got != want {
			t.Errorf("Sum(%.60q) = %s, want %s", s, got, want)
		}
	}
	if got, want := hex.EncodeToString([]byte(digest.Leaf("abc"))), "609f6e36d2405585188d5cfd761f407c7cc46a7d3f314c88270469dde315fcd1"; got != want {
		t.Errorf("Leaf(abc) = %s, want %s", got, want)
	}
}

// P2.1: every length up to some blocks, so that the mark and the length come at every place of a block.
func TestSumLengths(t *testing.T) {
	r := source()
	for n := range 400 {
		for _, s := range []string{randomString(r, n), strings.Repeat("\x00", n), strings.Repeat("\xff", n)} {
			got := digest.Sum(s)
			wantSum(t, "Sum", got, referenceSum(s))
			if len(got) != api.DigestSize {
				t.Fatalf("Sum of %d bytes has %d bytes", n, len(got))
			}
		}
	}
	for _, n := range []int{8191, 8192, 8193, api.MaxString, 1<<20 + 55, 1<<20 + 56, 1 << 21} {
		s := randomString(r, n)
		wantSum(t, "Sum", digest.Sum(s), referenceSum(s))
	}
}

// P2.1: the three marked digests, of parts that begin and end anywhere in a block.
func TestMarks(t *testing.T) {
	r := source()
	lengths := []int{0, 1, 2, 31, 32, 33, 54, 55, 56, 62, 63, 64, 65, 118, 119, 120, 127, 128, 129, 300}
	for _, n := range lengths {
		a := randomString(r, n)
		wantSum(t, "Leaf", digest.Leaf(a), referenceSum("\x00", a))
		for _, m := range lengths {
			b := randomString(r, m)
			wantSum(t, "Node", digest.Node(a, b), referenceSum("\x01", a, b))
			wantSum(t, "Chain", digest.Chain(a, b), referenceSum("\x02", a, b))
		}
	}
}

// P2.1, P2.3: what is digested for different purposes differs, even if the bytes are the same.
func TestMarksDiffer(t *testing.T) {
	for _, s := range []string{"", "a", "\x00", "\x01", "\x02", digest.Sum(""), strings.Repeat("\x00", 64)} {
		a, b := s[:len(s)/2], s[len(s)/2:]
		all := []string{digest.Sum(s), digest.Leaf(s), digest.Node(a, b), digest.Chain(a, b)}
		slices.Sort(all)
		if len(slices.Compact(all)) != 4 {
			t.Errorf("two digests of %q are the same", s)
		}
	}
}

func headOf(records []string) string {
	head := strings.Repeat("\x00", api.DigestSize)
	for _, record := range records {
		head = digest.Chain(head, record)
	}
	return head
}

// P2.3: lists of records with different ends, lengths or orders have different heads.
func TestHeads(t *testing.T) {
	zero := headOf(nil)
	if zero != strings.Repeat("\x00", 32) {
		t.Errorf("the head of no records is %x", zero)
	}
	wantSum(t, "the head of two records", headOf([]string{"a", "b"}), referenceSum("\x02", referenceSum("\x02", zero, "a"), "b"))
	records := []string{"", "a", "b", "ab", "\x02", zero, zero + "a", "\x02" + zero + "a", headOf([]string{"a"})}
	lists := [][]string{nil}
	for from := 0; len(lists[from]) < 3; from++ {
		for _, record := range records {
			lists = append(lists, append(slices.Clone(lists[from]), record))
		}
	}
	byHead := map[string][]string{}
	for _, list := range lists {
		head := headOf(list)
		if other, ok := byHead[head]; ok {
			t.Fatalf("%q and %q have the same head", list, other)
		}
		byHead[head] = list
	}
}
