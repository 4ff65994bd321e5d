// Package wire is layer 1: the encoding of integers and strings as bytes, and checksums. See shared/doc/01-wire.md.
package wire

import (
	"iter"
	"strings"

	"cachetier/api"
)

const (
	groupBits = 7
	groupMask = 1<<groupBits - 1
	more      = 1 << groupBits // set in every byte of an encoding except the last one
	maxGroups = 9              // 2*api.MaxInt has 63 bits
)

// PutInt returns the encoding of n, or ErrWire if n is not from -MaxInt to MaxInt.
func PutInt(n int) (string, api.Errno) {
	if n < -api.MaxInt || n > api.MaxInt {
		return "", api.ErrWire
	}
	code := make([]byte, 0, maxGroups)
	for group, last := range groups(unsigned(n)) {
		if !last {
			group |= more
		}
		code = append(code, group)
	}
	return string(code), api.OK
}

// Int decodes the integer whose encoding begins at offset at of s, and returns it and the offset of the byte after the encoding.
func Int(s string, at int) (int, int, api.Errno) {
	if at < 0 || at > len(s) {
		return 0, 0, api.ErrArg
	}
	rest := s[at:]
	z := uint64(0)
	for i := range min(len(rest), maxGroups) {
		group := rest[i]
		z |= uint64(group&groupMask) << (groupBits * i)
		if group >= more {
			continue
		}
		superfluous := group == 0 && i > 0
		if superfluous || z > 2*api.MaxInt {
			return 0, 0, api.ErrWire
		}
		return signed(z), at + i + 1, api.OK
	}
	return 0, 0, api.ErrWire
}

// PutString returns the encoding of s, or ErrWire if s has more than MaxString bytes.
func PutString(s string) (string, api.Errno) {
	if len(s) > api.MaxString {
		return "", api.ErrWire
	}
	length, err := PutInt(len(s))
	return length + s, err
}

// String decodes the string whose encoding begins at offset at of s, and returns it and the offset of the byte after the encoding.
func String(s string, at int) (string, int, api.Errno) {
	length, start, err := Int(s, at)
	if err != api.OK {
		return "", 0, err
	}
	if length < 0 || length > api.MaxString || length > len(s)-start {
		return "", 0, api.ErrWire
	}
	end := start + length
	// A part of s would keep all of s in memory for as long as the result lives.
	return strings.Clone(s[start:end]), end, api.OK
}

// Sum returns the CRC-32C checksum of s.
func Sum(s string) int {
	register := ^uint32(0)
	for i := range len(s) {
		register ^= uint32(s[i])
		register = register>>4 ^ nibbles[register&15]
		register = register>>4 ^ nibbles[register&15]
	}
	return int(^register)
}

// nibbles[i] is what a register with the value i becomes in four of the shifts by which Sum is defined. The other bits of a register are only shifted meanwhile: those shifts are linear, so the two effects are XORed.
var nibbles = [16]uint32{
	0x00000000, 0x105ec76f, 0x20bd8ede, 0x30e349b1,
	0x417b1dbc, 0x5125dad3, 0x61c69362, 0x7198540d,
	0x82f63b78, 0x92a8fc17, 0xa24bb5a6, 0xb21572c9,
	0xc38d26c4, 0xd3d3e1ab, 0xe330a81a, 0xf36e6f75,
}

// groups yields the groups of 7 bits of z, the least significant first and without superfluous zero groups, and says of each whether it is the last.
func groups(z uint64) iter.Seq2[byte, bool] {
	return func(yield func(byte, bool) bool) {
		for rest := z; ; rest >>= groupBits {
			last := rest < more
			if !yield(byte(rest&groupMask), last) || last {
				return
			}
		}
	}
}

// unsigned numbers the integers from -MaxInt to MaxInt so that those near 0 have small numbers: 2n, or -2n - 1 if n is negative.
func unsigned(n int) uint64 {
	if n < 0 {
		return uint64(-2*n - 1)
	}
	return uint64(2 * n)
}

// signed is the inverse of unsigned.
func signed(z uint64) int {
	if z%2 == 1 {
		return -int(z/2) - 1
	}
	return int(z / 2)
}
