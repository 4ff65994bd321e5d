package wire_test

import (
	"encoding/binary"
	"hash/crc32"
	"math"
	"math/rand/v2"
	"strings"
	"testing"
	"unsafe"

	"cachetier/api"
	"cachetier/wire"
)

// The standard library's signed varints have the same groups and the same order of integers, and its Castagnoli table is that of CRC-32C: they serve as references.

func referenceInt(n int) string {
	return string(binary.AppendVarint(nil, int64(n)))
}

func referenceSum(s string) int {
	return int(crc32.Checksum([]byte(s), crc32.MakeTable(crc32.Castagnoli)))
}

func source() *rand.Rand {
	return rand.New(rand.NewPCG(1, 2))
}

func randomString(r *rand.Rand, n int) string {
	b := make([]byte, n)
	for i := range b {
		b[i] = byte(r.Uint32())
	}
	return string(b)
}

// integers returns integers of every length of encoding, those beside each change of length, the bounds, and random ones.
func integers() []int {
	list := []int{api.MaxInt, api.MaxInt - 1, -api.MaxInt, -api.MaxInt + 1, 1_000_000_000}
	for n := -300; n <= 300; n++ {
		list = append(list, n)
	}
	for bit := range 62 {
		for d := -2; d <= 2; d++ {
			n := 1<<bit + d
			list = append(list, n, -n)
		}
	}
	r := source()
	for range 5000 {
		n := r.IntN(api.MaxInt) >> r.IntN(62)
		list = append(list, n, -n)
	}
	return list
}

func putInt(t *testing.T, n int) string {
	t.Helper()
	s, e := wire.PutInt(n)
	if e != api.OK {
		t.Fatalf("PutInt(%d): error %d", n, e)
	}
	return s
}

func putString(t *testing.T, s string) string {
	t.Helper()
	code, e := wire.PutString(s)
	if e != api.OK {
		t.Fatalf("PutString of %d bytes: error %d", len(s), e)
	}
	return code
}

func wantInt(t *testing.T, s string, at, n, next int, e api.Errno) {
	t.Helper()
	if gotN, gotNext, gotE := wire.Int(s, at); gotN != n || gotNext != next || gotE != e {
		t.Errorf("Int(%.40q, %d) = %d, %d, %d; want %d, %d, %d", s, at, gotN, gotNext, gotE, n, next, e)
	}
}

func wantString(t *testing.T, s string, at int, want string, next int, e api.Errno) {
	t.Helper()
	if got, gotNext, gotE := wire.String(s, at); got != want || gotNext != next || gotE != e {
		t.Errorf("String(%.40q, %d) = %.40q, %d, %d; want %.40q, %d, %d", s, at, got, gotNext, gotE, want, next, e)
	}
}

// P1.1: the values that the chapter gives, and the longest encodings.
func TestIntValues(t *testing.T) {
	for _, c := range []struct {
		n int
		s string
	}{
		{0, "\x00"}, {-1, "\x01"}, {1, "\x02"}, {-2, "\x03"}, {63, "\x7e"}, {-64, "\x7f"},
		{64, "\x80\x01"}, {-65, "\x81\x01"}, {150, "\xac\x02"},
		{8191, "\xfe\x7f"}, {-8192, "\xff\x7f"}, {8192, "\x80\x80\x01"},
		{1 << 61, "\x80\x80\x80\x80\x80\x80\x80\x80\x40"},
		{api.MaxInt, "\xfe\xff\xff\xff\xff\xff\xff\xff\x7f"},
		{-api.MaxInt, "\xfd\xff\xff\xff\xff\xff\xff\xff\x7f"},
	} {
		if s := putInt(t, c.n); s != c.s {
			t.Errorf("PutInt(%d) = %x, want %x", c.n, s, c.s)
		}
		wantInt(t, c.s, 0, c.n, len(c.s), api.OK)
	}
}

// P1.1
func TestIntReference(t *testing.T) {
	for _, n := range integers() {
		want := referenceInt(n)
		if s := putInt(t, n); s != want {
			t.Fatalf("PutInt(%d) = %x, want %x", n, s, want)
		}
		wantInt(t, want, 0, n, len(want), api.OK)
	}
}

// P1.1: integers beyond the bounds.
func TestPutIntErrors(t *testing.T) {
	for _, n := range []int{api.MaxInt + 1, api.MaxInt + 2, -api.MaxInt - 1, -api.MaxInt - 2, math.MaxInt, math.MinInt, math.MinInt + 1} {
		if s, e := wire.PutInt(n); s != "" || e != api.ErrWire {
			t.Errorf("PutInt(%d) = %x, %d; want ErrWire", n, s, e)
		}
	}
}

// P1.1: an offset that is none comes before an encoding that is none.
func TestIntOffsets(t *testing.T) {
	for _, s := range []string{"", "\x00", "\x80", "\x80\x00", "\x02\x04\x06"} {
		for _, at := range []int{-1, -2, len(s) + 1, len(s) + 2, math.MinInt, math.MaxInt} {
			wantInt(t, s, at, 0, 0, api.ErrArg)
		}
		wantInt(t, s, len(s), 0, 0, api.ErrWire)
	}
	wantInt(t, "\x02\xac\x02\x06", 0, 1, 1, api.OK)
	wantInt(t, "\x02\xac\x02\x06", 1, 150, 3, api.OK)
	wantInt(t, "\x02\xac\x02\x06", 2, 1, 3, api.OK)
	wantInt(t, "\x02\xac\x02\x06", 3, 3, 4, api.OK)
}

// P1.1: strings that begin with no encoding of an integer.
func TestIntInvalid(t *testing.T) {
	ff := strings.Repeat("\xff", 8)
	for _, s := range []string{
		"\x80", "\xff", "\x80\x80", ff, ff + "\xff", strings.Repeat("\x80", 100), // they end too early
		"\x80\x00", "\x81\x00", "\xff\x00", "\x80\x80\x00", "\x82\x81\x00", ff + "\x00", // superfluous zero groups
		ff + "\x7f",                                       // -2^62
		ff + "\x80\x00", ff + "\xff\x00", ff + "\x80\x01", // 10 bytes and more
		strings.Repeat("\x80", 9) + "\x00", strings.Repeat("\x80", 9) + "\x01", ff + "\xff\x7f",
		strings.Repeat("\x80", 10) + "\x01", strings.Repeat("\x80", 64) + "\x02", ff + ff + ff + "\x01",
	} {
		wantInt(t, s, 0, 0, 0, api.ErrWire)
		wantInt(t, "\x02\x80"+s, 2, 0, 0, api.ErrWire)
	}
	for _, n := range integers() {
		s := putInt(t, n)
		for end := range len(s) {
			wantInt(t, s[:end], 0, 0, 0, api.ErrWire)
		}
		padded := s[:len(s)-1] + string([]byte{s[len(s)-1] | 0x80, 0})
		wantInt(t, padded, 0, 0, 0, api.ErrWire)
	}
}

// P1.2: the values that the chapter gives, and strings of all kinds of bytes.
func TestStringValues(t *testing.T) {
	for _, c := range []struct{ s, code string }{
		{"", "\x00"}, {"a", "\x02a"}, {"ab", "\x04ab"}, {"\x00", "\x02\x00"}, {"\xff\xfe\x80", "\x06\xff\xfe\x80"},
		{"é\n", "\x06\xc3\xa9\n"}, {strings.Repeat("x", 63), "\x7e" + strings.Repeat("x", 63)},
		{strings.Repeat("x", 64), "\x80\x01" + strings.Repeat("x", 64)},
		{strings.Repeat("\x00", 8192), "\x80\x80\x01" + strings.Repeat("\x00", 8192)},
		{strings.Repeat("y", api.MaxString-1), "\xfe\xff\x07" + strings.Repeat("y", api.MaxString-1)},
		{strings.Repeat("z", api.MaxString), "\x80\x80\x08" + strings.Repeat("z", api.MaxString)},
	} {
		if code := putString(t, c.s); code != c.code {
			t.Errorf("PutString(%.20q) = %.20q, want %.20q", c.s, code, c.code)
		}
		wantString(t, c.code, 0, c.s, len(c.code), api.OK)
	}
	wantString(t, "\x04abc", 0, "ab", 3, api.OK)
	wantString(t, "xy\x04abc", 2, "ab", 5, api.OK)
	wantString(t, "x\x00", 1, "", 2, api.OK)
}

// P1.2: every length, with bytes behind it, and one byte too few.
func TestStringLengths(t *testing.T) {
	all := randomString(source(), api.MaxString)
	for n := 0; n <= api.MaxString; n += 1 + n/50 {
		code := putString(t, all[:n])
		if want := referenceInt(n) + all[:n]; code != want {
			t.Fatalf("PutString of %d bytes is not their number and these bytes", n)
		}
		wantString(t, code, 0, all[:n], len(code), api.OK)
		wantString(t, "\x80"+code+"\x80", 1, all[:n], 1+len(code), api.OK)
		wantString(t, code[:len(code)-1], 0, "", 0, api.ErrWire)
	}
}

// P1.2
func TestPutStringErrors(t *testing.T) {
	for _, n := range []int{api.MaxString + 1, api.MaxString + 2, 10 * api.MaxString} {
		if s, e := wire.PutString(strings.Repeat("x", n)); s != "" || e != api.ErrWire {
			t.Errorf("PutString of %d bytes: %d bytes, error %d; want ErrWire", n, len(s), e)
		}
	}
}

// P1.2: an offset that is none comes before an encoding that is none.
func TestStringOffsets(t *testing.T) {
	for _, s := range []string{"", "\x00", "\x80", "\x04a", "\x04ab"} {
		for _, at := range []int{-1, -2, len(s) + 1, len(s) + 2, math.MinInt, math.MaxInt} {
			wantString(t, s, at, "", 0, api.ErrArg)
		}
		wantString(t, s, len(s), "", 0, api.ErrWire)
	}
}

// P1.2: strings that begin with no encoding of a string.
func TestStringInvalid(t *testing.T) {
	long := strings.Repeat("x", api.MaxString+10)
	for _, s := range []string{
		"\x80", "\x80\x80", "\x80\x00", "\x84\x00ab", // no length
		"\x01", "\x01abc", "\x03abc", "\x7f" + long, referenceInt(-api.MaxInt) + long, // a negative length
		"\x02", "\x04a", "\x06ab", "\x80\x01" + long[:63], // too few bytes
		referenceInt(api.MaxString) + long[:api.MaxString-1],
		referenceInt(api.MaxString+1) + long, referenceInt(api.MaxString+2) + long, // too many
		referenceInt(1 << 32), referenceInt(1<<61) + "ab", referenceInt(api.MaxInt) + "ab",
	} {
		wantString(t, s, 0, "", 0, api.ErrWire)
		wantString(t, "\x02"+s, 1, "", 0, api.ErrWire)
	}
}

// P1.3: known checksums, and those of all strings of one byte.
func TestSumValues(t *testing.T) {
	for s, want := range map[string]int{
		"":                         0,
		"a":                        0xc1d04330,
		"123456789":                3808858755,
		"\x00":                     0x527d5351,
		"\xff":                     0xff000000,
		strings.Repeat("\x00", 32): 0x8a9136aa, // these two are those of RFC 3720, appendix B.4
		strings.Repeat("\xff", 32): 0x62a8ab43,
	} {
		if got := wire.Sum(s); got != want {
			t.Errorf("Sum(%q) = %d, want %d", s, got, want)
		}
	}
	for b := range 256 {
		s := string([]byte{byte(b)})
		if got, want := wire.Sum(s), sumByBits(s); got != want {
			t.Errorf("Sum(%x) = %d, want %d", s, got, want)
		}
	}
}

// sumByBits follows the chapter's definition, bit by bit.
func sumByBits(s string) int {
	register := uint32(0xffffffff)
	for i := range len(s) {
		register ^= uint32(s[i])
		for range 8 {
			out := register & 1
			register >>= 1
			if out == 1 {
				register ^= 0x82f63b78
			}
		}
	}
	return int(^register)
}

// P1.3
func TestSumReference(t *testing.T) {
	r := source()
	for n := range 300 {
		s := randomString(r, n)
		got := wire.Sum(s)
		if got != sumByBits(s) || got != referenceSum(s) {
			t.Errorf("Sum(%x) = %d, want %d", s, got, sumByBits(s))
		}
		if got < 0 || got > math.MaxUint32 {
			t.Errorf("Sum(%x) = %d is out of range", s, got)
		}
	}
	if s := randomString(r, 1<<20); wire.Sum(s) != referenceSum(s) {
		t.Error("Sum of a long string")
	}
}

// P1.4: what Int accepts is what PutInt returns. Every string of one or two bytes is tried, and many longer ones.
func TestIntAcceptsOnlyEncodings(t *testing.T) {
	accepted := 0
	for i := range 1 << 16 {
		if acceptsEncoding(t, string([]byte{byte(i >> 8), byte(i)})) {
			accepted++
		}
	}
	// 128 bytes are encodings, with any byte behind them, and each of the other 128 with 127 bytes.
	if want := 128*256 + 128*127; accepted != want {
		t.Errorf("Int accepts %d strings of two bytes, want %d", accepted, want)
	}
	for i := range 1 << 8 {
		acceptsEncoding(t, string([]byte{byte(i)}))
	}
	r := source()
	for range 20000 {
		b := []byte(randomString(r, 12))
		for i := range r.IntN(12) {
			b[i] |= 0x80
		}
		acceptsEncoding(t, string(b))
	}
}

func acceptsEncoding(t *testing.T, s string) bool {
	t.Helper()
	n, next, e := wire.Int(s, 0)
	if e != api.OK {
		for end := 1; end <= len(s) && end <= 10; end++ {
			if n, size := binary.Varint([]byte(s[:end])); size == end && n >= -api.MaxInt && n <= api.MaxInt && referenceInt(int(n)) == s[:end] {
				t.Fatalf("Int refuses %x, which is the encoding of %d", s, n)
			}
		}
		return false
	}
	if code := putInt(t, n); next != len(code) || s[:next] != code {
		t.Fatalf("Int(%x, 0) = %d, %d, but PutInt(%d) = %x", s, n, next, n, code)
	}
	return true
}

// P1.4: what String accepts is what PutString returns.
func TestStringAcceptsOnlyEncodings(t *testing.T) {
	r := source()
	accepted := 0
	for range 200000 {
		s := randomString(r, r.IntN(12))
		got, next, e := wire.String(s, 0)
		if e != api.OK {
			continue
		}
		accepted++
		if code := putString(t, got); next != len(code) || s[:next] != code {
			t.Fatalf("String(%x, 0) = %x, %d, but PutString gives %x", s, got, next, code)
		}
	}
	if accepted == 0 {
		t.Error("String accepts nothing")
	}
}

// P1.4: encodings are injective, and none is the beginning of another.
func TestPrefixFree(t *testing.T) {
	byCode := map[string]int{}
	for _, n := range integers() {
		code := putInt(t, n)
		if other, ok := byCode[code]; ok && other != n {
			t.Fatalf("%d and %d have the same encoding %x", n, other, code)
		}
		byCode[code] = n
	}
	for code := range byCode {
		for end := range len(code) {
			if n, ok := byCode[code[:end]]; ok {
				t.Fatalf("the encoding %x of %d begins with that of %d", code, byCode[code], n)
			}
		}
	}
	strs := []string{"", "\x00", "\x02", "\x02\x00", "a", "ab", "abc", "\x04ab", strings.Repeat("\x80", 64), strings.Repeat("\x80", 65)}
	for i, a := range strs {
		for j, b := range strs {
			if i != j && strings.HasPrefix(putString(t, a), putString(t, b)) {
				t.Errorf("the encoding of %q begins with that of %q", a, b)
			}
		}
	}
}

// P1.4: what surrounds an encoding does not matter.
func TestSurroundings(t *testing.T) {
	r := source()
	for _, n := range integers() {
		before, after := randomString(r, r.IntN(5)), randomString(r, r.IntN(5))
		code := putInt(t, n)
		wantInt(t, before+code+after, len(before), n, len(before)+len(code), api.OK)
		s := randomString(r, r.IntN(200))
		code = putString(t, s)
		wantString(t, before+code+after, len(before), s, len(before)+len(code), api.OK)
	}
}

// P1.4: a concatenation of encodings is decoded as what was encoded.
func TestConcatenation(t *testing.T) {
	r := source()
	all := integers()
	for range 500 {
		var ints []int
		var strs []string
		var code strings.Builder
		for range r.IntN(20) {
			n, s := all[r.IntN(len(all))], randomString(r, r.IntN(80))
			ints, strs = append(ints, n), append(strs, s)
			code.WriteString(putInt(t, n) + putString(t, s))
		}
		at := 0
		for i := range ints {
			n, next, e := wire.Int(code.String(), at)
			s, end, f := wire.String(code.String(), next)
			if n != ints[i] || s != strs[i] || e != api.OK || f != api.OK {
				t.Fatalf("item %d: %d, %x, errors %d, %d; want %d, %x", i, n, s, e, f, ints[i], strs[i])
			}
			at = end
		}
		if at != code.Len() {
			t.Fatalf("decoded %d of %d bytes", at, code.Len())
		}
	}
}

// P1.4: a change of at most 32 consecutive bits changes the checksum.
func TestSumFindsBursts(t *testing.T) {
	r := source()
	for _, n := range []int{1, 2, 4, 5, 9, 40} {
		s := randomString(r, n)
		sum := wire.Sum(s)
		for first := range 8 * n {
			for _, burst := range bursts(r, min(32, 8*n-first)) {
				if changed := flip(s, first, burst); wire.Sum(changed) == sum {
					t.Fatalf("Sum(%x) = Sum(%x): bits %b from %d on", s, changed, burst, first)
				}
			}
		}
	}
}

// bursts returns patterns of 1 to most bits, the lowest one of which is set: each of a few bits, single bits, pairs, full ones and random ones.
func bursts(r *rand.Rand, most int) []uint32 {
	full := uint32(1<<most - 1)
	list := []uint32{1, full}
	for i := range most {
		list = append(list, 1|1<<i, full>>i, 1|r.Uint32()&full, 1|r.Uint32()&full>>i)
	}
	for p := uint32(1); p <= min(full, 255); p += 2 {
		list = append(list, p)
	}
	return list
}

// flip returns s with the bits of burst flipped, from bit first on.
func flip(s string, first int, burst uint32) string {
	b := []byte(s)
	for i := range 32 {
		if burst>>i&1 == 1 {
			b[(first+i)/8] ^= 1 << ((first + i) % 8)
		}
	}
	return string(b)
}

// R3: a result shares no memory with an argument.
func TestNewMemory(t *testing.T) {
	code := putString(t, strings.Repeat("ab", 50))
	s, _, _ := wire.String(code, 0)
	if overlaps(code, s) {
		t.Error("String returns a part of its argument")
	}
	if overlaps(s, putString(t, s)) {
		t.Error("PutString returns its argument")
	}
}

func overlaps(a, b string) bool {
	startA, startB := uintptr(unsafe.Pointer(unsafe.StringData(a))), uintptr(unsafe.Pointer(unsafe.StringData(b)))
	return startA < startB+uintptr(len(b)) && startB < startA+uintptr(len(a))
}
