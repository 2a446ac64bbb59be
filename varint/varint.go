// Package varint is layer 43: see shared/doc/43-varint.md.
package varint

import (
	"math/bits"
)

const Longest = 10

const more = 128 // in a byte: another one follows

// Size: how many bytes a number takes.
func Size(n uint64) int {
	return max(1, (bits.Len64(n)+6)/7)
}

// Put: bytes with numbers behind them, in new memory.
func Put(b []byte, l ...uint64) []byte {
	many := len(b)
	for _, n := range l {
		many += Size(n)
	}
	out := make([]byte, 0, many)
	out = append(out, b...)
	for _, n := range l {
		out = write(out, n)
	}
	return out
}

// write: a number's bytes are put behind those that are there.
func write(b []byte, n uint64) []byte {
	for n >= more {
		b = append(b, byte(n)|more)
		n >>= 7
	}
	return append(b, byte(n))
}

// Get: the number at the beginning of some bytes, and how many it takes; 0 bytes: there is none that is written so.
func Get(b []byte) (uint64, int) {
	n := uint64(0)
	for i, x := range b[:min(len(b), Longest)] {
		n |= uint64(x&(more-1)) << (7 * i)
		if x >= more {
			continue
		}
		if Size(n) != i+1 || i+1 == Longest && x > 1 { // a last byte that says nothing, or more than 64 bits have room for
			return 0, 0
		}
		return n, i + 1
	}
	return 0, 0
}

// All: the numbers that some bytes are, one behind the other; false: they are none.
func All(b []byte) ([]uint64, bool) {
	var l []uint64
	for len(b) > 0 {
		n, size := Get(b)
		if size == 0 {
			return nil, false
		}
		l = append(l, n)
		b = b[size:]
	}
	return l, true
}

// Fold: a number with a sign as one without: 0, -1, 1, -2 and so on are 0, 1, 2, 3 and so on.
func Fold(n int64) uint64 {
	if n < 0 {
		return 2*uint64(-(n+1)) + 1 // -n itself has no room, if n is the least one
	}
	return 2 * uint64(n)
}

// Unfold: the number with a sign.
func Unfold(n uint64) int64 {
	if n%2 == 1 {
		return -int64(n/2) - 1
	}
	return int64(n / 2)
}

// Deltas: numbers as how far each is from the one ahead (the first one: from 0), folded, going round.
func Deltas(l ...int64) []byte {
	var out []byte
	last := int64(0)
	for _, n := range l {
		out = write(out, Fold(n-last))
		last = n
	}
	return out
}

// Undeltas: the numbers that Deltas writes so; false: they are none.
func Undeltas(b []byte) ([]int64, bool) {
	folded, ok := All(b)
	if !ok {
		return nil, false
	}
	l := make([]int64, 0, len(folded))
	last := int64(0)
	for _, n := range folded {
		last += Unfold(n)
		l = append(l, last)
	}
	return l, true
}
