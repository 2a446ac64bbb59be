package sip_test

import (
	"bytes"
	"encoding/binary"
	"math"
	"math/bits"
	"math/rand"
	"testing"

	"brougham/api"
	"brougham/sip"
)

// known: the sums of the bytes 0 on, none of them to 63 of them, under the key of the bytes 0 to 15, as OpenSSL makes them.
var known = [64]uint64{
	0x726fdb47dd0e0e31, 0x74f839c593dc67fd, 0x0d6c8009d9a94f5a, 0x85676696d7fb7e2d,
	0xcf2794e0277187b7, 0x18765564cd99a68d, 0xcbc9466e58fee3ce, 0xab0200f58b01d137,
	0x93f5f5799a932462, 0x9e0082df0ba9e4b0, 0x7a5dbbc594ddb9f3, 0xf4b32f46226bada7,
	0x751e8fbc860ee5fb, 0x14ea5627c0843d90, 0xf723ca908e7af2ee, 0xa129ca6149be45e5,
	0x3f2acc7f57c29bdb, 0x699ae9f52cbe4794, 0x4bc1b3f0968dd39c, 0xbb6dc91da77961bd,
	0xbed65cf21aa2ee98, 0xd0f2cbb02e3b67c7, 0x93536795e3a33e88, 0xa80c038ccd5ccec8,
	0xb8ad50c6f649af94, 0xbce192de8a85b8ea, 0x17d835b85bbb15f3, 0x2f2e6163076bcfad,
	0xde4daaaca71dc9a5, 0xa6a2506687956571, 0xad87a3535c49ef28, 0x32d892fad841c342,
	0x7127512f72f27cce, 0xa7f32346f95978e3, 0x12e0b01abb051238, 0x15e034d40fa197ae,
	0x314dffbe0815a3b4, 0x027990f029623981, 0xcadcd4e59ef40c4d, 0x9abfd8766a33735c,
	0x0e3ea96b5304a7d0, 0xad0c42d6fc585992, 0x187306c89bc215a9, 0xd4a60abcf3792b95,
	0xf935451de4f21df2, 0xa9538f0419755787, 0xdb9acddff56ca510, 0xd06c98cd5c0975eb,
	0xe612a3cb9ecba951, 0xc766e62cfcadaf96, 0xee64435a9752fe72, 0xa192d576b245165a,
	0x0a8787bf8ecb74b2, 0x81b3e73d20b49b6f, 0x7fa8220ba3b2ecea, 0x245731c13ca42499,
	0xb78dbfaf3a8d83bd, 0xea1ad565322a1a0b, 0x60e61c23a3795013, 0x6606d7e446282b93,
	0x6ca4ecb15c5f91e1, 0x9f626da15c9625f3, 0xe51b38608ef25f57, 0x958a324ceb064572,
}

var bytesKey = api.Pair{K0: 0x0706050403020100, K1: 0x0f0e0d0c0b0a0908}

// rising: so many bytes, from 0 on.
func rising(many int) []byte {
	b := make([]byte, many)
	for i := range b {
		b[i] = byte(i)
	}
	return b
}

// plain: the sum as the document tells it, of bytes in one piece.
func plain(k api.Pair, b []byte) uint64 {
	v0, v1, v2, v3 := k.K0^0x736f6d6570736575, k.K1^0x646f72616e646f6d, k.K0^0x6c7967656e657261, k.K1^0x7465646279746573
	round := func() {
		v0 += v1
		v1 = bits.RotateLeft64(v1, 13)
		v1 ^= v0
		v0 = bits.RotateLeft64(v0, 32)
		v2 += v3
		v3 = bits.RotateLeft64(v3, 16)
		v3 ^= v2
		v0 += v3
		v3 = bits.RotateLeft64(v3, 21)
		v3 ^= v0
		v2 += v1
		v1 = bits.RotateLeft64(v1, 17)
		v1 ^= v2
		v2 = bits.RotateLeft64(v2, 32)
	}
	padded := append(bytes.Clone(b), make([]byte, 7-len(b)%8)...)
	padded = append(padded, byte(len(b)))
	for i := 0; i < len(padded); i += 8 {
		n := binary.LittleEndian.Uint64(padded[i:])
		v3 ^= n
		round()
		round()
		v0 ^= n
	}
	v2 ^= 255
	for range 4 {
		round()
	}
	return v0 ^ v1 ^ v2 ^ v3
}

// P3.1

func TestSumKnown(t *testing.T) {
	for n, want := range known {
		if got := sip.Sum(bytesKey, rising(n)); got != want {
			t.Errorf("%d bytes: %016x, not %016x", n, got, want)
		}
	}
	if got := sip.Sum(bytesKey); got != 0x726fdb47dd0e0e31 {
		t.Errorf("no parts: %016x", got)
	}
}

// As many bytes as go round in the highest byte of the last number, as OpenSSL makes them.
func TestSumLong(t *testing.T) {
	k := api.Pair{K0: 0x8899aabbccddeeff, K1: 0x0011223344556677}
	for n, want := range map[int]uint64{
		255:  0x0f7021ec04f0f811,
		256:  0x914e967d94e95a06,
		257:  0x40e565d93c7b30ad,
		263:  0xcf5d6168da91e509,
		264:  0x6752e9699fb5abc2,
		1024: 0xad6ebc8a73d19352,
		4097: 0x52f37cb790b1111e,
	} {
		b := make([]byte, n)
		for i := range b {
			b[i] = byte(7*i + 3)
		}
		if got := sip.Sum(k, b); got != want {
			t.Errorf("%d bytes: %016x, not %016x", n, got, want)
		}
	}
}

func TestSumPlain(t *testing.T) {
	r := rand.New(rand.NewSource(1))
	keys := []api.Pair{{}, {K0: 1}, {K1: 1}, {K0: math.MaxUint64, K1: math.MaxUint64}, bytesKey}
	for i := range 2000 {
		k := api.Pair{K0: r.Uint64(), K1: r.Uint64()}
		if i < len(keys) {
			k = keys[i]
		}
		b := make([]byte, r.Intn(600))
		r.Read(b)
		if got, want := sip.Sum(k, b), plain(k, b); got != want {
			t.Fatalf("%v, %x: %016x, not %016x", k, b, got, want)
		}
	}
	b := make([]byte, 1<<20+5)
	r.Read(b)
	if got, want := sip.Sum(bytesKey, b), plain(bytesKey, b); got != want {
		t.Errorf("%016x, not %016x", got, want)
	}
}

func TestPair(t *testing.T) {
	r := rand.New(rand.NewSource(2))
	for n := range 300 {
		k := api.Pair{K0: r.Uint64(), K1: r.Uint64()}
		b := make([]byte, n)
		r.Read(b)
		want := api.Pair{K0: plain(k, append([]byte{1}, b...)), K1: plain(k, append([]byte{2}, b...))}
		if got := sip.Pair(k, b); got != want {
			t.Fatalf("%d bytes: %x, not %x", n, got, want)
		}
	}
	one, two := sip.Sum(bytesKey, []byte{1}), sip.Sum(bytesKey, []byte{2})
	if got := sip.Pair(bytesKey); got != (api.Pair{K0: one, K1: two}) {
		t.Errorf("no parts: %x", got)
	}
	if got := sip.Pair(bytesKey, []byte{}, nil); got != (api.Pair{K0: one, K1: two}) {
		t.Errorf("empty parts: %x", got)
	}
}

// P3.2

func TestCut(t *testing.T) {
	r := rand.New(rand.NewSource(3))
	for range 2000 {
		k := api.Pair{K0: r.Uint64(), K1: r.Uint64()}
		b := make([]byte, r.Intn(100))
		r.Read(b)
		var parts [][]byte
		for rest := b; len(rest) > 0; {
			n := r.Intn(min(len(rest), 20) + 1)
			parts = append(parts, rest[:n])
			if n == 0 && r.Intn(2) == 0 {
				parts = append(parts, nil)
			}
			rest = rest[n:]
		}
		if got, want := sip.Sum(k, parts...), sip.Sum(k, b); got != want {
			t.Fatalf("%x: %016x, not %016x", parts, got, want)
		}
		if got, want := sip.Pair(k, parts...), sip.Pair(k, b); got != want {
			t.Fatalf("%x: %x, not %x", parts, got, want)
		}
	}
}

func TestCutEachPlace(t *testing.T) {
	b := rising(63)
	for i := range len(b) + 1 {
		for j := i; j <= len(b); j++ {
			if got := sip.Sum(bytesKey, b[:i], b[i:j], b[j:]); got != known[63] {
				t.Fatalf("%d, %d: %016x", i, j, got)
			}
		}
	}
	var single [][]byte
	for i := range b {
		single = append(single, b[i:i+1])
	}
	if got := sip.Sum(bytesKey, single...); got != known[63] {
		t.Errorf("%016x", got)
	}
}

// P1, P2

// Each call takes any argument, answers the same again, changes nothing of it, and reads nothing behind its length.
func TestAny(t *testing.T) {
	room := rising(40)
	for _, parts := range [][][]byte{nil, {}, {nil}, {nil, {}, nil}, {room[:0]}, {room[:3], room[:3]}, {room[:17], nil, room[5:9]}, make([][]byte, 1000)} {
		for _, k := range []api.Pair{{}, bytesKey, {K0: math.MaxUint64, K1: math.MaxUint64}} {
			n, p := sip.Sum(k, parts...), sip.Pair(k, parts...)
			sip.Sum(api.Pair{K0: n}, room)
			if want := plain(k, bytes.Join(parts, nil)); n != want || sip.Sum(k, parts...) != n || sip.Pair(k, parts...) != p {
				t.Errorf("%x: %016x, %x", parts, n, p)
			}
			if p.K0 == p.K1 {
				t.Errorf("%x: %x", parts, p)
			}
		}
	}
	if !bytes.Equal(room, rising(40)) {
		t.Error(room)
	}
	short := sip.Sum(bytesKey, room[:5])
	room[5] = 200
	if sip.Sum(bytesKey, room[:5]) != short {
		t.Error("what lies behind the length counts")
	}
}
