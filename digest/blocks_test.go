package digest

import (
	"encoding/binary"
	"slices"
	"strings"
	"testing"
)

// P2.1: the last bytes are the number of bits even where it has more than 32 bits. The parts are the same memory over and over, so that none of it has to be as long.
func TestLengthOfLongStrings(t *testing.T) {
	part := strings.Repeat("0123456789abcdef", 1<<16)
	for _, length := range []int{1<<20 - 1, 1<<29 - 1, 1 << 29, 1<<29 + 55, 1<<29 + 56, 1<<31 - 1} {
		parts := append(slices.Repeat([]string{part}, length/len(part)), part[:length%len(part)])
		number, last := 0, [blockSize]byte{}
		for block := range blocks(parts) {
			number, last = number+1, block
		}
		if want := (length + 1 + lengthSize + blockSize - 1) / blockSize; number != want {
			t.Errorf("%d bytes are extended to %d blocks, want %d", length, number, want)
		}
		if got := binary.BigEndian.Uint64(last[blockSize-lengthSize:]); got != 8*uint64(length) {
			t.Errorf("%d bytes have %d bits", length, got)
		}
	}
}

// A caller that takes only some of the blocks gets no more than these.
func TestBlocksEndEarly(t *testing.T) {
	parts := []string{strings.Repeat("x", 2*blockSize), strings.Repeat("y", blockSize-1)}
	for most := 1; most <= 4; most++ {
		number := 0
		for range blocks(parts) {
			number++
			if number == most {
				break
			}
		}
		if number != most {
			t.Errorf("%d blocks, want %d", number, most)
		}
	}
}
