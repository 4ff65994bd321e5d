package digest

import (
	"iter"
	"math/bits"

	"cachetier/api"
)

const (
	blockSize  = 64
	lengthSize = 8   // the bytes at the end of the last block that contain the length
	endMark    = 128 // the byte that follows the string
)

// initial are the words with which a digest begins.
var initial = [8]uint32{
	0x6a09e667, 0xbb67ae85, 0x3c6ef372, 0xa54ff53a, 0x510e527f, 0x9b05688c, 0x1f83d9ab, 0x5be0cd19,
}

// constants are the words k(0) to k(63).
var constants = [64]uint32{
	0x428a2f98, 0x71374491, 0xb5c0fbcf, 0xe9b5dba5, 0x3956c25b, 0x59f111f1, 0x923f82a4, 0xab1c5ed5,
	0xd807aa98, 0x12835b01, 0x243185be, 0x550c7dc3, 0x72be5d74, 0x80deb1fe, 0x9bdc06a7, 0xc19bf174,
	0xe49b69c1, 0xefbe4786, 0x0fc19dc6, 0x240ca1cc, 0x2de92c6f, 0x4a7484aa, 0x5cb0a9dc, 0x76f988da,
	0x983e5152, 0xa831c66d, 0xb00327c8, 0xbf597fc7, 0xc6e00bf3, 0xd5a79147, 0x06ca6351, 0x14292967,
	0x27b70a85, 0x2e1b2138, 0x4d2c6dfc, 0x53380d13, 0x650a7354, 0x766a0abb, 0x81c2c92e, 0x92722c85,
	0xa2bfe8a1, 0xa81a664b, 0xc24b8b70, 0xc76c51a3, 0xd192e819, 0xd6990624, 0xf40e3585, 0x106aa070,
	0x19a4c116, 0x1e376c08, 0x2748774c, 0x34b0bcb5, 0x391c0cb3, 0x4ed8aa4a, 0x5b9cca4f, 0x682e6ff3,
	0x748f82ee, 0x78a5636f, 0x84c87814, 0x8cc70208, 0x90befffa, 0xa4506ceb, 0xbef9a3f7, 0xc67178f2,
}

// sumOf returns the SHA-256 of the parts, one after the other. It takes them apart because joining them would copy long records.
func sumOf(parts ...string) string {
	words := initial
	for block := range blocks(parts) {
		words = mix(words, block)
	}
	var sum [api.DigestSize]byte
	for i, word := range words {
		for b := range 4 {
			sum[4*i+b] = byte(word >> (24 - 8*b))
		}
	}
	return string(sum[:])
}

// blocks yields the blocks of the parts, one part after the other, and of what extends them.
func blocks(parts []string) iter.Seq[[blockSize]byte] {
	return func(yield func([blockSize]byte) bool) {
		var block [blockSize]byte
		used, length := 0, 0
	nextPart:
		for _, part := range parts {
			length += len(part)
			for {
				n := copy(block[used:], part)
				used += n
				part = part[n:]
				if used < blockSize {
					continue nextPart
				}
				if !yield(block) {
					return
				}
				used = 0
			}
		}
		block[used] = endMark
		clear(block[used+1:])
		// The length does not fit behind the mark: it gets a block of its own.
		if used+1 > blockSize-lengthSize {
			if !yield(block) {
				return
			}
			clear(block[:])
		}
		for b := range lengthSize {
			block[blockSize-1-b] = byte(uint64(length) * 8 >> (8 * b))
		}
		yield(block)
	}
}

// mix returns what the words of a digest become by a block.
func mix(words [8]uint32, block [blockSize]byte) [8]uint32 {
	w := schedule(block)
	a, b, c, d, e, f, g, h := words[0], words[1], words[2], words[3], words[4], words[5], words[6], words[7]
	for i := range len(w) {
		t := h + (right(e, 6) ^ right(e, 11) ^ right(e, 25)) + (e&f ^ ^e&g) + constants[i] + w[i]
		u := (right(a, 2) ^ right(a, 13) ^ right(a, 22)) + (a&b ^ a&c ^ b&c)
		a, b, c, d, e, f, g, h = t+u, a, b, c, d+t, e, f, g
	}
	for i, x := range [8]uint32{a, b, c, d, e, f, g, h} {
		words[i] += x
	}
	return words
}

// schedule returns the words w(0) to w(63) of a block.
func schedule(block [blockSize]byte) [64]uint32 {
	var w [64]uint32
	for i := range blockSize / 4 {
		w[i] = uint32(block[4*i])<<24 | uint32(block[4*i+1])<<16 | uint32(block[4*i+2])<<8 | uint32(block[4*i+3])
	}
	for i := blockSize / 4; i < len(w); i++ {
		x := right(w[i-15], 7) ^ right(w[i-15], 18) ^ w[i-15]>>3
		y := right(w[i-2], 17) ^ right(w[i-2], 19) ^ w[i-2]>>10
		w[i] = w[i-16] + x + w[i-7] + y
	}
	return w
}

// right returns x rotated right by n bits.
func right(x uint32, n int) uint32 {
	return bits.RotateLeft32(x, -n)
}
