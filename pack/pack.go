// Package pack is layer 2: see shared/doc/02-pack.md.
package pack

import (
	"bytes"
)

// Field is a number, and how many bytes of it count.
type Field struct {
	Bytes int
	N     uint64
}

// B: a field of one byte.
func B(n byte) Field { return Field{Bytes: 1, N: uint64(n)} }

// H: a field of two bytes.
func H(n uint16) Field { return Field{Bytes: 2, N: uint64(n)} }

// W: a field of four bytes.
func W(n uint32) Field { return Field{Bytes: 4, N: uint64(n)} }

// Q: a field of eight bytes.
func Q(n uint64) Field { return Field{Bytes: 8, N: n} }

// Flag: a field of one byte: 1 or 0.
func Flag(is bool) Field {
	if is {
		return B(1)
	}
	return B(0)
}

// isSize: can a field have so many bytes?
func isSize(size int) bool { return size >= 1 && size <= 8 }

// Put: bytes with fields behind them, in new memory; of a field that has not 1 to 8 bytes nothing.
func Put(b []byte, l ...Field) []byte {
	out := make([]byte, 0, len(b)+Size(l...))
	out = append(out, b...)
	for _, f := range l {
		if !isSize(f.Bytes) {
			continue
		}
		for shift := 8 * (f.Bytes - 1); shift >= 0; shift -= 8 {
			out = append(out, byte(f.N>>shift))
		}
	}
	return out
}

// Size: how many bytes fields take.
func Size(l ...Field) int {
	n := 0
	for _, f := range l {
		if isSize(f.Bytes) {
			n += f.Bytes
		}
	}
	return n
}

// Get: the numbers of these sizes at the beginning of some bytes, and the bytes behind them; false: there are too few, or a size isn't from 1 to 8.
func Get(b []byte, sizes ...int) ([]uint64, []byte, bool) {
	l, rest, ok := split(b, sizes)
	if !ok {
		return nil, nil, false
	}
	return l, bytes.Clone(rest), true
}

// All: the numbers of these sizes that some bytes are, no more and no fewer.
func All(b []byte, sizes ...int) ([]uint64, bool) {
	l, rest, ok := split(b, sizes)
	if !ok || len(rest) > 0 {
		return nil, false
	}
	return l, true
}

// split: as Get, but what stands behind the numbers is a piece of what was handed in.
func split(b []byte, sizes []int) ([]uint64, []byte, bool) {
	l := make([]uint64, 0, min(len(sizes), len(b))) // each number takes a byte at least
	for _, size := range sizes {
		if !isSize(size) || len(b) < size {
			return nil, nil, false
		}
		l = append(l, number(b[:size]))
		b = b[size:]
	}
	return l, b, true
}

// number: what at most eight bytes are, the highest one ahead.
func number(b []byte) uint64 {
	n := uint64(0)
	for _, x := range b {
		n = n<<8 | uint64(x)
	}
	return n
}
