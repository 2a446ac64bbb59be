package capture_test

import (
	"bytes"
	"encoding/binary"
	"encoding/hex"
	"fmt"
	"math"
	"math/big"
	"math/rand"
	"slices"
	"strings"
	"testing"

	"brougham/capture"
)

type record = capture.Record

// seen: so many bytes that aren't 0.
func seen(many int) []byte { return bytes.Repeat([]byte{0xab}, many) }

// empty: so many records of a tick, without bytes.
func empty(many, tick int) []record { return slices.Repeat([]record{{Tick: tick}}, many) }

// fletcher: the sum, worked out another way: each number counts in y as often as it and those behind it are many.
func fletcher(b []byte) uint32 {
	if len(b)%2 == 1 {
		b = append(bytes.Clone(b), 0)
	}
	x, y := new(big.Int), new(big.Int)
	for i := 0; i < len(b); i += 2 {
		n := int64(b[i])*256 + int64(b[i+1])
		x.Add(x, big.NewInt(n))
		y.Add(y, new(big.Int).Mul(big.NewInt(n), big.NewInt(int64(len(b)-i)/2)))
	}
	modulus := big.NewInt(65535)
	x.Mod(x, modulus)
	y.Mod(y, modulus)
	return uint32(65536*y.Uint64() + x.Uint64())
}

// sealed: bytes with their sum behind them.
func sealed(b []byte) []byte {
	return binary.BigEndian.AppendUint32(bytes.Clone(b), fletcher(b))
}

// head: the mark, and how many records.
func head(many int) []byte {
	return append([]byte("BROU"), byte(many>>8), byte(many))
}

// item: a record's bytes, of its ticks since the one ahead, its byte of host and path, and how many bytes it says that it has.
func item(ticks uint32, where byte, says int, b []byte) []byte {
	out := binary.BigEndian.AppendUint32(nil, ticks)
	return append(append(out, where, byte(says>>8), byte(says)), b...)
}

// plain: a capture's bytes, written another way.
func plain(l []record) []byte {
	b := head(len(l))
	ahead := 0
	for _, r := range l {
		b = append(b, item(uint32(r.Tick-ahead), byte(r.Host<<7|r.Path), len(r.Bytes), r.Bytes)...)
		ahead = r.Tick
	}
	return sealed(b)
}

// same: are two lists the same? A nil list is an empty one.
func same(a, b []record) bool {
	return slices.EqualFunc(a, b, func(x, y record) bool {
		return x.Tick == y.Tick && x.Host == y.Host && x.Path == y.Path && bytes.Equal(x.Bytes, y.Bytes)
	})
}

// deep: a list that shares no memory with another one, made another way.
func deep(l []record) []record {
	var out []record
	for _, r := range l {
		out = append(out, record{r.Tick, r.Host, r.Path, append([]byte(nil), r.Bytes...)})
	}
	return out
}

// turn: each byte is another one, up to the capacity; twice: all are as they were.
func turn(b []byte) {
	b = b[:cap(b)]
	for i := range b {
		b[i] ^= 0x55
	}
}

// spoil: all of a list is another one, up to the capacities.
func spoil(l []record) {
	for i := range l[:cap(l)] {
		r := &l[:cap(l)][i]
		turn(r.Bytes)
		*r = record{-7, -7, -7, []byte("no")}
	}
}

// drawn: a capture that may be, of at most so many records.
func drawn(r *rand.Rand, most int) []record {
	var l []record
	tick := 0
	for range r.Intn(most + 1) {
		switch r.Intn(4) {
		case 0:
			tick += r.Intn(9)
		case 1:
			tick = min(tick+r.Intn(1<<20), 1<<31-1)
		}
		b := make([]byte, r.Intn(12))
		if r.Intn(20) == 0 {
			b = make([]byte, 2040+r.Intn(9))
		}
		r.Read(b)
		l = append(l, record{tick, r.Intn(2), r.Intn(4), b})
	}
	return l
}

// anyRecords: records of any kind, whose ticks fall too.
func anyRecords(r *rand.Rand, most int) []record {
	var l []record
	for range r.Intn(most + 1) {
		b := make([]byte, r.Intn(4))
		r.Read(b)
		l = append(l, record{r.Intn(7) - 2, r.Intn(300) - 100, r.Intn(300) - 100, b})
	}
	return l
}

// P34.1

// lists: captures up to the limits, and one past each.
func lists() []struct {
	l  []record
	ok bool
} {
	one := func(tick, host, path, many int) []record { return []record{{tick, host, path, seen(many)}} }
	two := func(a, b int) []record { return []record{{Tick: a}, {Tick: b}} }
	return []struct {
		l  []record
		ok bool
	}{
		{nil, true}, {[]record{}, true}, {empty(1, 0), true}, {empty(1023, 5), true}, {empty(1024, 5), true}, {empty(1025, 5), false}, {empty(2048, 5), false}, {empty(65536, 5), false}, {empty(65537, 5), false},
		{one(0, 0, 0, 0), true}, {one(1<<31-1, 1, 3, 2048), true}, {one(-1, 0, 0, 0), false}, {one(1<<31, 0, 0, 0), false}, {one(1<<32, 0, 0, 0), false}, {one(math.MaxInt, 0, 0, 0), false}, {one(math.MinInt, 0, 0, 0), false},
		{one(0, 1, 0, 0), true}, {one(0, -1, 0, 0), false}, {one(0, 2, 0, 0), false}, {one(0, math.MaxInt, 0, 0), false}, {one(0, math.MinInt, 0, 0), false},
		{one(0, 0, 3, 0), true}, {one(0, 0, 4, 0), false}, {one(0, 0, -1, 0), false}, {one(0, 0, 128, 0), false}, {one(0, 0, math.MaxInt, 0), false}, {one(0, 0, math.MinInt, 0), false},
		{one(0, 0, 0, 2047), true}, {one(0, 0, 0, 2048), true}, {one(0, 0, 0, 2049), false}, {one(0, 0, 0, 65536), false}, {one(0, 0, 0, 65537), false},
		{two(0, 0), true}, {two(7, 7), true}, {two(7, 8), true}, {two(7, 6), false}, {two(1, 0), false}, {two(0, -1), false}, {two(-1, 0), false}, {two(0, 1<<31-1), true}, {two(1<<31-1, 1<<31-1), true}, {two(1<<31-1, 1<<31), false}, {two(1<<31-1, 0), false}, {two(0, 1<<31), false},
		{append(two(3, 5), record{Tick: 4}), false}, {append(empty(1023, 5), record{Tick: 4}), false}, {append(empty(1023, 5), record{Tick: 6, Host: 1, Path: 3, Bytes: seen(2048)}), true}, {append(empty(1023, 5), record{Tick: 6, Bytes: seen(2049)}), false}, {append(one(0, 0, 4, 0), record{}), false}, {append(one(0, 0, 0, 2049), record{}), false}, {append(one(0, 2, 0, 0), record{}), false},
	}
}

func TestRight(t *testing.T) {
	for i, x := range lists() {
		if ok := capture.Right(x.l); ok != x.ok {
			t.Errorf("Right %d: %v", i, ok)
		}
		b, ok := capture.Encode(x.l)
		if ok != x.ok || !ok && len(b) != 0 || ok && !bytes.Equal(b, plain(x.l)) {
			t.Errorf("Encode %d: %d bytes, %v", i, len(b), ok)
		}
		if !ok {
			continue
		}
		if l, ok := capture.Decode(b); !ok || !same(l, x.l) {
			t.Errorf("Decode %d: %d records, %v", i, len(l), ok)
		}
	}
	if capture.Most != 1024 || capture.Longest != 2048 {
		t.Error(capture.Most, capture.Longest)
	}
}

func TestEncode(t *testing.T) {
	for _, x := range []struct {
		l    []record
		want string // without the sum
	}{
		{nil, "42524f55" + "0000"},
		{[]record{{Tick: 3, Host: 1, Path: 2, Bytes: []byte("ab")}, {Tick: 5}}, "42524f55" + "0002" + "00000003" + "82" + "0002" + "6162" + "00000002" + "00" + "0000"},
		{[]record{{Tick: 0x01020304, Path: 3, Bytes: seen(1)}, {Tick: 0x7fffffff, Host: 1, Bytes: make([]byte, 1)}}, "42524f55" + "0002" + "01020304" + "03" + "0001" + "ab" + "7efdfcfb" + "80" + "0001" + "00"},
		{[]record{{Tick: 5, Host: 1, Path: 3}, {Tick: 5, Host: 1, Path: 1, Bytes: seen(258)}}, "42524f55" + "0002" + "00000005" + "83" + "0000" + "00000000" + "81" + "0102" + strings.Repeat("ab", 258)},
	} {
		b, ok := capture.Encode(x.l)
		rest, err := hex.DecodeString(x.want)
		if err != nil || !ok || !bytes.Equal(b, sealed(rest)) {
			t.Errorf("Encode(%v): %x, %v", x.l, b, ok)
		}
	}
	b, _ := capture.Encode(nil)
	if got := hex.EncodeToString(b); got != "42524f550000"+"65a191a7" { // by hand: x is 4252, 91a7, 91a7; y is 4252, d3f9, 165a0 less ffff
		t.Error(got)
	}
}

func TestSum(t *testing.T) {
	for b, want := range map[string]uint32{
		"": 0, "\x00": 0, "\x00\x00": 0, "\x00\x00\x00": 0, "\xff\xff": 0, "\xff\xff\xff\xff": 0, "\xff\xfe": 0xfffefffe, "\xff\xff\xff\xfe": 0xfffefffe,
		"\x01": 0x01000100, "\x00\x01": 0x00010001, "\x01\x00": 0x01000100, "\x00\x01\x00\x02": 0x00040003, "\x00\x02\x00\x01": 0x00050003, "\x00\x01\x00": 0x00020001, "\xff": 0xff00ff00, "\xff\xfe\x00\x02": 0x00000001,
		"\x80\x00\x80\x00": 0x80010001, "\x80\x00\x7f\xff": 0x80000000, "abcde": 0x4ff029c7,
	} {
		if got := capture.Sum([]byte(b)); got != want {
			t.Errorf("Sum(%x): %08x, not %08x", b, got, want)
		}
	}
	r := rand.New(rand.NewSource(1))
	for n := range 300 {
		b := make([]byte, n)
		r.Read(b)
		if got := capture.Sum(b); got != fletcher(b) {
			t.Errorf("Sum(%x): %08x", b, got)
		}
	}
	for _, n := range []int{65535, 65536, 65537, 131070, 131071, 300001} {
		for _, x := range []byte{0, 1, 254, 255} {
			b := bytes.Repeat([]byte{x}, n)
			if got := capture.Sum(b); got != fletcher(b) {
				t.Errorf("Sum of %d bytes %d: %08x", n, x, got)
			}
		}
	}
}

// Bytes whose sum is right, of which some are no capture.
func TestDecode(t *testing.T) {
	cat := func(l ...[]byte) []byte { return slices.Concat(l...) }
	plus := func(b []byte, x byte) []byte { return append(b, x) }
	for i, x := range []struct {
		b  []byte
		ok bool
	}{
		{head(0), true}, {head(1), false}, {head(256), false}, {plus(head(0), 0), false}, {plus(head(0), 9), false}, {head(0)[:5], false}, {head(0)[:4], false}, {nil, false},
		{cat([]byte("BROV"), head(0)[4:]), false}, {cat([]byte("\x00ROU"), head(0)[4:]), false}, {cat([]byte("UORB"), head(0)[4:]), false}, {make([]byte, 6), false}, {make([]byte, 20), false},
		{cat(head(1), item(0, 0, 0, nil)), true}, {cat(head(2), item(0, 0, 0, nil)), false}, {cat(head(0), item(0, 0, 0, nil)), false}, {plus(cat(head(1), item(0, 0, 0, nil)), 0), false}, {cat(head(1), item(0, 0, 0, nil)[:6]), false}, {cat(head(1), item(0, 0, 0, nil)[:1]), false}, {cat(head(2), item(0, 0, 0, nil), item(0, 0, 0, nil)), true}, {cat(head(1), item(0, 0, 0, nil), item(0, 0, 0, nil)), false},
		{cat(head(1), item(0, 0, 1, nil)), false}, {cat(head(1), item(0, 0, 1, seen(1))), true}, {cat(head(1), item(0, 0, 0, seen(1))), false}, {cat(head(1), item(0, 0, 2, seen(1))), false}, {cat(head(1), item(0, 0, 1, seen(2))), false}, {cat(head(1), item(0, 0, 65535, seen(1))), false}, {cat(head(2), item(0, 0, 8, seen(1)), item(0, 0, 0, nil)), false},
		{cat(head(1), item(0, 0, 2048, seen(2048))), true}, {cat(head(1), item(0, 0, 2049, seen(2049))), false}, {cat(head(1), item(0, 0, 65535, seen(65535))), false},
		{cat(head(1), item(0, 3, 0, nil)), true}, {cat(head(1), item(0, 4, 0, nil)), false}, {cat(head(1), item(0, 127, 0, nil)), false}, {cat(head(1), item(0, 128, 0, nil)), true}, {cat(head(1), item(0, 131, 0, nil)), true}, {cat(head(1), item(0, 132, 0, nil)), false}, {cat(head(1), item(0, 255, 0, nil)), false}, {cat(head(2), item(0, 4, 0, nil), item(0, 0, 0, nil)), false}, {cat(head(2), item(0, 0, 0, nil), item(0, 4, 0, nil)), false},
		{cat(head(1), item(1<<31-1, 0, 0, nil)), true}, {cat(head(1), item(1<<31, 0, 0, nil)), false}, {cat(head(1), item(1<<32-1, 0, 0, nil)), false}, {cat(head(2), item(1<<31-1, 0, 0, nil), item(0, 0, 0, nil)), true}, {cat(head(2), item(1<<31-1, 0, 0, nil), item(1, 0, 0, nil)), false}, {cat(head(2), item(5, 0, 0, nil), item(1<<31-6, 0, 0, nil)), true}, {cat(head(2), item(5, 0, 0, nil), item(1<<31-5, 0, 0, nil)), false}, {cat(head(2), item(5, 0, 0, nil), item(1<<32-1, 0, 0, nil)), false}, {cat(head(3), item(1<<31, 0, 0, nil), item(1<<31, 0, 0, nil), item(0, 0, 0, nil)), false},
		{cat(head(1024), bytes.Repeat(item(1, 1, 1, seen(1)), 1024)), true}, {cat(head(1025), bytes.Repeat(item(1, 1, 1, seen(1)), 1025)), false}, {cat(head(65535), bytes.Repeat(item(0, 0, 0, nil), 65535)), false}, {cat(head(0), bytes.Repeat(item(0, 0, 0, nil), 65536)), false},
	} {
		b := sealed(x.b)
		l, ok := capture.Decode(b)
		if ok != x.ok || !ok && len(l) != 0 || ok && !bytes.Equal(plain(l), b) {
			t.Errorf("Decode %d: %v, %v", i, len(l), ok)
		}
	}
	l, ok := capture.Decode(sealed(cat(head(3), item(7, 130, 2, []byte("ab")), item(0, 1, 0, nil), item(9, 128, 1, []byte("c")))))
	if !ok || !same(l, []record{{7, 1, 2, []byte("ab")}, {7, 0, 1, nil}, {16, 1, 0, []byte("c")}}) {
		t.Error(l, ok)
	}
}

// Fewer bytes than the least capture has.
func TestDecodeShort(t *testing.T) {
	least := sealed(head(0))
	for n := range len(least) {
		for _, b := range [][]byte{least[:n], make([]byte, n), seen(n)} {
			if l, ok := capture.Decode(b); ok || len(l) != 0 {
				t.Errorf("%x: %v, %v", b, l, ok)
			}
		}
	}
	if l, ok := capture.Decode(nil); ok || len(l) != 0 {
		t.Error(l, ok)
	}
}

// A capture of which any one byte is another one, or of which there is a byte less or more, is none.
func TestDecodeTurned(t *testing.T) {
	b := plain([]record{{3, 1, 2, []byte("ab")}, {5, 0, 0, nil}, {5, 0, 3, []byte{0, 255, 0}}})
	for i := range b {
		for n := 1; n < 256; n++ {
			turned := bytes.Clone(b)
			turned[i] ^= byte(n)
			if l, ok := capture.Decode(turned); ok || len(l) != 0 {
				t.Fatalf("byte %d of %x: %v, %v", i, turned, l, ok)
			}
		}
		if l, ok := capture.Decode(b[:i]); ok || len(l) != 0 {
			t.Errorf("%x: %v, %v", b[:i], l, ok)
		}
		if l, ok := capture.Decode(b[i+1:]); ok || len(l) != 0 {
			t.Errorf("%x: %v, %v", b[i+1:], l, ok)
		}
	}
	for n := range 256 {
		if l, ok := capture.Decode(append(bytes.Clone(b), byte(n))); ok || len(l) != 0 {
			t.Errorf("%d behind: %v, %v", n, l, ok)
		}
	}
}

// A sum is below 65535 in both halves: 65535 for 0 is another one.
func TestDecodeSumRound(t *testing.T) {
	found := [2]bool{}
	for n := range 1 << 17 {
		b := plain([]record{{Bytes: []byte{byte(n >> 16), byte(n >> 8), byte(n)}}})
		for i, half := range [][]byte{b[len(b)-4 : len(b)-2], b[len(b)-2:]} {
			if half[0] != 0 || half[1] != 0 || found[i] {
				continue
			}
			if _, ok := capture.Decode(b); !ok {
				t.Errorf("%x: none", b)
			}
			found[i] = true
			half[0], half[1] = 255, 255
			if l, ok := capture.Decode(b); ok {
				t.Errorf("%x: %v", b, l)
			}
			half[0], half[1] = 0, 0
		}
	}
	if !found[0] || !found[1] {
		t.Error("no such sum", found)
	}
}

// P34.2

// slowMerge: each record of the first list ahead of those that are left of the second one, unless the first of these has a lesser tick.
func slowMerge(a, b []record) []record {
	if len(a) == 0 {
		return b
	}
	if len(b) == 0 || a[0].Tick <= b[0].Tick {
		return append([]record{a[0]}, slowMerge(a[1:], b)...)
	}
	return append([]record{b[0]}, slowMerge(a, b[1:])...)
}

func TestMerge(t *testing.T) {
	at := func(host int, ticks ...int) []record {
		var l []record
		for i, tick := range ticks {
			l = append(l, record{Tick: tick, Host: host, Path: i})
		}
		return l
	}
	told := func(l []record) string {
		var out []string
		for _, r := range l {
			out = append(out, fmt.Sprintf("%d%c%d", r.Tick, 'a'+r.Host, r.Path))
		}
		return strings.Join(out, " ")
	}
	for _, x := range []struct {
		a, b []record
		want string
	}{
		{nil, nil, ""}, {nil, at(1, 4, 5), "4b0 5b1"}, {at(0, 4, 5), nil, "4a0 5a1"}, {at(0, 1, 3), at(1, 2, 4), "1a0 2b0 3a1 4b1"}, {at(0, 2, 4), at(1, 1, 3), "1b0 2a0 3b1 4a1"},
		{at(0, 5), at(1, 5), "5a0 5b0"}, {at(0, 5, 5), at(1, 5, 5), "5a0 5a1 5b0 5b1"}, {at(0, 5, 6), at(1, 5, 6), "5a0 5b0 6a1 6b1"}, {at(0, 1, 2), at(1, 8, 9), "1a0 2a1 8b0 9b1"}, {at(0, 8, 9), at(1, 1, 2), "1b0 2b1 8a0 9a1"},
		{at(0, 5, 1), at(1, 3), "3b0 5a0 1a1"}, {at(0, 3), at(1, 5, 1), "3a0 5b0 1b1"}, {at(0, 9, 0), at(1, 8, 7, 9), "8b0 7b1 9a0 0a1 9b2"}, {at(0, -1, math.MaxInt), at(1, math.MinInt, math.MaxInt), fmt.Sprintf("%db0 -1a0 %da1 %db1", math.MinInt, math.MaxInt, math.MaxInt)},
	} {
		if got := told(capture.Merge(x.a, x.b)); got != x.want {
			t.Errorf("Merge(%s; %s): %s, not %s", told(x.a), told(x.b), got, x.want)
		}
	}
	r := rand.New(rand.NewSource(2))
	for range 2000 {
		a, b := anyRecords(r, 9), anyRecords(r, 9)
		if got := capture.Merge(a, b); !same(got, slowMerge(a, b)) {
			t.Fatal(a, b, got)
		}
	}
	if got := capture.Merge(empty(2000, 3), empty(3000, 3)); len(got) != 5000 {
		t.Error(len(got))
	}
}

func TestBetween(t *testing.T) {
	l := []record{{Tick: 3, Path: 1}, {Tick: 5, Path: 2, Bytes: []byte("a")}, {Tick: 5, Path: 3}, {Tick: 4, Path: 4}, {Tick: -1, Path: 5}, {Tick: math.MaxInt, Path: 6}, {Tick: math.MinInt, Path: 7}, {Tick: 5, Path: 2, Bytes: []byte("b")}}
	for _, x := range []struct {
		from, to int
		want     string
	}{
		{3, 6, "12342"}, {3, 5, "14"}, {4, 6, "2342"}, {5, 6, "232"}, {5, 5, ""}, {6, 5, ""}, {4, 5, "4"}, {0, 3, ""}, {0, 4, "1"}, {-1, 4, "15"}, {0, math.MaxInt, "12342"}, {6, math.MaxInt, ""}, {math.MinInt, math.MaxInt, "1234572"}, {math.MinInt, -1, "7"}, {math.MaxInt, math.MaxInt, ""}, {math.MaxInt, math.MinInt, ""}, {math.MinInt, math.MinInt, ""}, {math.MinInt + 1, 0, "5"},
	} {
		got := ""
		for _, r := range capture.Between(l, x.from, x.to) {
			got += fmt.Sprint(r.Path)
		}
		if got != x.want {
			t.Errorf("Between(%d, %d): %s, not %s", x.from, x.to, got, x.want)
		}
	}
	if got := capture.Between(l, 5, 6); !same(got, []record{l[1], l[2], l[7]}) {
		t.Error(got)
	}
	for _, l := range [][]record{nil, {}} {
		if got := capture.Between(l, 0, 9); len(got) != 0 {
			t.Error(got)
		}
	}
	if got := capture.Between(empty(3000, 3), 3, 4); len(got) != 3000 {
		t.Error(len(got))
	}
}

// P34.3

func TestEncodedIsDecoded(t *testing.T) {
	r := rand.New(rand.NewSource(3))
	for range 1000 {
		l := drawn(r, []int{3, 30, 1024}[r.Intn(3)])
		b, ok := capture.Encode(l)
		if !ok || !capture.Right(l) {
			t.Fatalf("%d records may not be", len(l))
		}
		if got, ok := capture.Decode(b); !ok || !same(got, l) {
			t.Fatalf("%v: %v, %v", l, got, ok)
		}
	}
	l := slices.Repeat([]record{{1<<31 - 1, 1, 3, seen(2048)}}, 1024)
	b, ok := capture.Encode(l)
	if got, is := capture.Decode(b); !ok || !is || !same(got, l) || len(b) != 6+1024*(7+2048)+4 {
		t.Error(len(b), ok, is)
	}
}

// Bytes that are a capture's but for a few, with the right sum.
func TestDecodedIsEncoded(t *testing.T) {
	r := rand.New(rand.NewSource(4))
	were := map[bool]int{}
	for range 5000 {
		b := plain(drawn(r, 6))
		b = b[:len(b)-4]
		for range r.Intn(3) {
			i := r.Intn(len(b))
			if r.Intn(2) == 0 {
				i = min(6+r.Intn(7), len(b)-1)
			}
			b[i] ^= 1 << r.Intn(8)
		}
		if r.Intn(9) == 0 {
			b = b[:r.Intn(len(b))]
		}
		b = sealed(b)
		old := bytes.Clone(b)
		l, ok := capture.Decode(b)
		were[ok]++
		if !ok {
			continue
		}
		if back, ok := capture.Encode(l); !ok || !bytes.Equal(back, old) {
			t.Fatalf("%x: %v: %x, %v", old, l, back, ok)
		}
	}
	if were[true] < 1000 || were[false] < 1000 {
		t.Error(were)
	}
}

// P1, P2

// Each call takes any argument, ends, turns nothing, and answers the same again, whatever was called between.
func TestAny(t *testing.T) {
	odd := []int{math.MinInt, -1, 0, 1, 3, 4, 5, 128, 1<<31 - 1, 1 << 31, 1 << 32, math.MaxInt}
	r := rand.New(rand.NewSource(5))
	var all [][]record
	for range 300 {
		var l []record
		for range r.Intn(4) {
			l = append(l, record{odd[r.Intn(len(odd))], odd[r.Intn(len(odd))], odd[r.Intn(len(odd))], seen(r.Intn(3))})
		}
		all = append(all, l, drawn(r, 4))
	}
	for _, x := range lists() {
		if len(x.l) < 1000 {
			all = append(all, x.l)
		}
	}
	answers := func() string {
		var out strings.Builder
		for i, l := range all {
			before, other := deep(l), all[(i*7+1)%len(all)]
			b, ok := capture.Encode(l)
			m, is := capture.Decode(b)
			from, to := odd[i%len(odd)], odd[i/len(odd)%len(odd)]
			fmt.Fprintln(&out, string(b), ok, len(m), is, capture.Right(l), capture.Sum(b), capture.Between(l, from, to), len(capture.Merge(l, other)))
			if !same(l, before) || is != ok {
				t.Fatal("an argument is turned")
			}
			for j, x := range capture.Merge(l, other) {
				fmt.Fprint(&out, j, x.Tick, x.Host, x.Path, len(x.Bytes))
			}
		}
		return out.String()
	}
	if answers() != answers() {
		t.Error("another answer to the same call")
	}
	for _, n := range []int{1 << 20, 1 << 24} {
		for _, b := range [][]byte{make([]byte, n), seen(n), sealed(append(head(1024), make([]byte, n)...))} {
			old := capture.Sum(b)
			if l, ok := capture.Decode(b); ok || len(l) != 0 || capture.Sum(b) != old {
				t.Error(len(l), ok)
			}
		}
	}
}

// What is answered is new memory; no list of it reaches into another one.
func TestAnswered(t *testing.T) {
	r := rand.New(rand.NewSource(6))
	for range 300 {
		l, m := drawn(r, 9), drawn(r, 9)
		before, other, b := deep(l), deep(m), plain(l)
		e, _ := capture.Encode(l)
		turn(e)
		for _, call := range []func() []record{
			func() []record { x, _ := capture.Decode(b); return x },
			func() []record { return capture.Merge(l, m) }, func() []record { return capture.Merge(l, l) }, func() []record { return capture.Merge(l, nil) }, func() []record { return capture.Merge(nil, l) },
			func() []record { return capture.Between(l, 0, math.MaxInt) },
		} {
			one, two := call(), call()
			want := deep(two)
			for i := range one {
				_ = append(one[i].Bytes, 1, 2, 3)
			}
			if !same(one, want) {
				t.Fatal("what is put behind one list stands in another one")
			}
			for i := range one {
				turn(one[i].Bytes)
				if !same(one[:i], want[:i]) || !same(one[i+1:], want[i+1:]) {
					t.Fatal("two lists of one answer share their memory")
				}
				turn(one[i].Bytes)
			}
			spoil(one)
			if !same(l, before) || !same(m, other) || !same(two, want) || !bytes.Equal(b, plain(before)) {
				t.Fatal("an answer shares its memory")
			}
		}
		x, y := capture.Merge(l, m), capture.Between(l, 0, math.MaxInt)
		z, _ := capture.Decode(b)
		want := deep(x)
		spoil(l)
		spoil(m)
		clear(b)
		if !same(x, want) || !same(y, before) || !same(z, before) {
			t.Fatal("an answer shares its memory with an argument")
		}
	}
}

// What lies behind a list's length is neither read nor handed out.
func TestBehind(t *testing.T) {
	room := []byte("abcd")
	l := []record{{Tick: 1, Bytes: room[:2]}, {Tick: 0, Host: 9, Bytes: room}}[:1]
	b, ok := capture.Encode(l)
	if !ok || !capture.Right(l) || !bytes.Equal(b, plain([]record{{Tick: 1, Bytes: []byte("ab")}})) {
		t.Errorf("%x, %v", b, ok)
	}
	d, _ := capture.Decode(append(bytes.Clone(b), room...)[:len(b)])
	for _, got := range [][]record{d, capture.Merge(l, nil), capture.Merge(nil, l), capture.Between(l, 0, 9)} {
		if len(got) != 1 || string(got[0].Bytes) != "ab" {
			t.Fatal(got)
		}
		for _, x := range got[0].Bytes[2:cap(got[0].Bytes)] {
			if x != 0 {
				t.Errorf("%d behind", x)
			}
		}
		for _, x := range got[1:cap(got)] {
			if x.Tick != 0 || x.Host != 0 || x.Bytes != nil {
				t.Errorf("%v behind", x)
			}
		}
	}
	if capture.Sum(room[:3]) != capture.Sum([]byte("abc")) {
		t.Error("Sum reads behind the bytes")
	}
	if got := capture.Between(l, 0, 1); len(got) != 0 {
		t.Error(got)
	}
}
