package varint_test

import (
	"bytes"
	"encoding/binary"
	"fmt"
	"math"
	"math/rand"
	"slices"
	"testing"

	"brougham/varint"
)

// P43.1

// at: numbers with their bytes, at the edges of how many they take.
var at = []struct {
	n uint64
	b string
}{
	{0, "00"}, {1, "01"}, {127, "7f"},
	{128, "8001"}, {300, "ac02"}, {1<<14 - 1, "ff7f"},
	{1 << 14, "808001"}, {1<<21 - 1, "ffff7f"},
	{1 << 21, "80808001"}, {1<<28 - 1, "ffffff7f"},
	{1 << 28, "8080808001"}, {1<<35 - 1, "ffffffff7f"},
	{1 << 35, "808080808001"}, {1<<42 - 1, "ffffffffff7f"},
	{1 << 42, "80808080808001"}, {1<<49 - 1, "ffffffffffff7f"},
	{1 << 49, "8080808080808001"}, {1<<56 - 1, "ffffffffffffff7f"},
	{1 << 56, "808080808080808001"}, {1<<63 - 1, "ffffffffffffffff7f"},
	{1 << 63, "80808080808080808001"}, {math.MaxUint64, "ffffffffffffffffff01"},
}

func TestNumbers(t *testing.T) {
	var all []uint64
	whole := ""
	for _, x := range at {
		b := varint.Put(nil, x.n)
		if fmt.Sprintf("%x", b) != x.b || varint.Size(x.n) != len(x.b)/2 {
			t.Errorf("%d: %x, %d bytes", x.n, b, varint.Size(x.n))
		}
		for _, behind := range []string{"", "\x00", "\x7f", "\xff", "\xff\xff\xff\xff\xff\xff\xff\xff\xff\xff\xff"} {
			if n, size := varint.Get(append(b, behind...)); n != x.n || size != len(b) {
				t.Errorf("Get(%x, %x): %d, %d", b, behind, n, size)
			}
		}
		all, whole = append(all, x.n), whole+x.b
	}
	b := varint.Put(nil, all...)
	if fmt.Sprintf("%x", b) != whole {
		t.Errorf("%x", b)
	}
	if l, ok := varint.All(b); !ok || !slices.Equal(l, all) {
		t.Error(l, ok)
	}
	if varint.Longest != 10 {
		t.Error(varint.Longest)
	}
}

func TestPutBehind(t *testing.T) {
	if b := varint.Put([]byte{9, 200}, 300, 0, 5); !bytes.Equal(b, []byte{9, 200, 172, 2, 0, 5}) {
		t.Error(b)
	}
	if b := varint.Put(nil); len(b) != 0 {
		t.Error(b)
	}
	if b := varint.Put([]byte{1}); !bytes.Equal(b, []byte{1}) {
		t.Error(b)
	}
}

func TestGetNone(t *testing.T) {
	high := bytes.Repeat([]byte{128}, 9)
	full := bytes.Repeat([]byte{255}, 9)
	for _, b := range [][]byte{
		nil, {}, {128}, {255}, {172}, {128, 128}, {128, 0}, {255, 0}, {128, 128, 0}, {255, 128, 0}, {128, 0, 1}, {129, 128, 128, 128, 0, 1},
		high, full, append(high, 0), append(high, 2), append(high, 3), append(high, 127), append(high, 128), append(high, 129),
		append(full, 0), append(full, 2), append(full, 3), append(full, 127), append(full, 128), append(full, 255),
		append(full, 129, 0), append(full, 129, 1), append(high, 128, 1), append(high, 128, 0), append(high[:8], 0), append(full[:8], 0),
		bytes.Repeat([]byte{128}, 100), bytes.Repeat([]byte{255}, 1<<20), append(bytes.Repeat([]byte{255}, 20), 1),
	} {
		if n, size := varint.Get(b); n != 0 || size != 0 {
			t.Errorf("Get(%.20x): %d, %d", b, n, size)
		}
		if len(b) == 0 {
			continue
		}
		for _, ahead := range []string{"", "\x05", "\x05\x80\x01"} {
			if l, ok := varint.All(append([]byte(ahead), b...)); ok || len(l) != 0 {
				t.Errorf("All(%x, %.20x): %v, %v", ahead, b, l, ok)
			}
			if l, ok := varint.Undeltas(append([]byte(ahead), b...)); ok || len(l) != 0 {
				t.Errorf("Undeltas(%x, %.20x): %v, %v", ahead, b, l, ok)
			}
		}
	}
}

func TestAll(t *testing.T) {
	for _, b := range [][]byte{nil, {}} {
		if l, ok := varint.All(b); !ok || len(l) != 0 {
			t.Error(l, ok)
		}
	}
	if l, ok := varint.All([]byte{0, 0, 1, 128, 1, 0}); !ok || !slices.Equal(l, []uint64{0, 0, 1, 128, 0}) {
		t.Error(l, ok)
	}
	if l, ok := varint.All([]byte{1, 2, 128}); ok || len(l) != 0 {
		t.Error(l, ok)
	}
	if l, ok := varint.All(make([]byte, 1000, 2000)[:3]); !ok || len(l) != 3 {
		t.Error(l, ok)
	}
}

// P43.2

func TestFold(t *testing.T) {
	for n, want := range map[int64]uint64{
		0: 0, -1: 1, 1: 2, -2: 3, 2: 4, 63: 126, -64: 127, 64: 128, -65: 129,
		1 << 62: 1 << 63, -1 << 62: 1<<63 - 1, 1<<62 - 1: 1<<63 - 2, -1<<62 - 1: 1<<63 + 1,
		math.MaxInt64: math.MaxUint64 - 1, math.MinInt64: math.MaxUint64, math.MinInt64 + 1: math.MaxUint64 - 2,
	} {
		if got := varint.Fold(n); got != want {
			t.Errorf("Fold(%d): %d, not %d", n, got, want)
		}
		if got := varint.Unfold(want); got != n {
			t.Errorf("Unfold(%d): %d, not %d", want, got, n)
		}
	}
}

// P43.3

func TestDeltas(t *testing.T) {
	for _, x := range []struct {
		l []int64
		b string
	}{
		{nil, ""}, {[]int64{0}, "00"}, {[]int64{1}, "02"}, {[]int64{-1}, "01"}, {[]int64{5, 5, 5}, "0a0000"},
		{[]int64{1, 2, 3, 2, 1}, "0202020101"}, {[]int64{100, 0, 100}, "c801c701c801"}, {[]int64{-64, -128, 0}, "7f7f8002"},
		{[]int64{math.MinInt64}, "ffffffffffffffffff01"}, {[]int64{math.MaxInt64}, "feffffffffffffffff01"},
		{[]int64{math.MaxInt64, math.MinInt64, math.MaxInt64}, "feffffffffffffffff01" + "02" + "01"},
		{[]int64{math.MinInt64, math.MaxInt64, math.MinInt64}, "ffffffffffffffffff01" + "01" + "02"},
		{[]int64{math.MinInt64, 0}, "ffffffffffffffffff01" + "ffffffffffffffffff01"},
		{[]int64{-1, math.MaxInt64}, "01" + "ffffffffffffffffff01"},
		{[]int64{1, math.MinInt64}, "02" + "feffffffffffffffff01"},
	} {
		b := varint.Deltas(x.l...)
		if fmt.Sprintf("%x", b) != x.b {
			t.Errorf("Deltas(%v): %x, not %s", x.l, b, x.b)
		}
		if l, ok := varint.Undeltas(b); !ok || !slices.Equal(l, x.l) {
			t.Errorf("Undeltas(%x): %v, %v", b, l, ok)
		}
	}
}

// P43.4

// some: numbers of all lengths.
func some(r *rand.Rand, many int) []uint64 {
	var l []uint64
	for range many {
		l = append(l, r.Uint64()>>r.Intn(64))
	}
	return l
}

func TestWrittenIsRead(t *testing.T) {
	r := rand.New(rand.NewSource(1))
	for range 3000 {
		l := some(r, r.Intn(20))
		b := varint.Put(nil, l...)
		want := []byte{}
		size := 0
		var signed []int64
		for _, n := range l {
			want = binary.AppendUvarint(want, n)
			size += varint.Size(n)
			s := int64(n) * int64(1-2*r.Intn(2))
			if got := varint.Unfold(varint.Fold(s)); got != s {
				t.Fatal(s, got)
			}
			if got := varint.Fold(varint.Unfold(n)); got != n {
				t.Fatal(n, got)
			}
			signed = append(signed, s)
		}
		if got, ok := varint.All(b); !ok || !slices.Equal(got, l) || !bytes.Equal(b, want) || len(b) != size {
			t.Fatal(l, got, ok, b)
		}
		if got, ok := varint.Undeltas(varint.Deltas(signed...)); !ok || !slices.Equal(got, signed) {
			t.Fatal(signed, got, ok)
		}
	}
}

func TestReadIsWritten(t *testing.T) {
	r := rand.New(rand.NewSource(2))
	bytesOf := []byte{0, 1, 2, 127, 128, 129, 255}
	read := 0
	for range 100000 {
		b := make([]byte, r.Intn(14))
		for i := range b {
			b[i] = bytesOf[r.Intn(len(bytesOf))]
			if r.Intn(3) > 0 {
				b[i] |= 128
			}
		}
		if n, size := varint.Get(b); size > 0 && !bytes.Equal(varint.Put(nil, n), b[:size]) || size == 0 && n != 0 {
			t.Fatalf("Get(%x): %d, %d", b, n, size)
		}
		l, ok := varint.All(b)
		if ok && !bytes.Equal(varint.Put(nil, l...), b) {
			t.Fatalf("All(%x): %v", b, l)
		}
		d, same := varint.Undeltas(b)
		if ok != same || ok && !bytes.Equal(varint.Deltas(d...), b) {
			t.Fatalf("Undeltas(%x): %v, %v", b, d, same)
		}
		if ok {
			read++
		}
	}
	if read < 1000 {
		t.Error("too few were read", read)
	}
}

// P1, P2

// What is handed in isn't turned, isn't kept, isn't handed out.
func TestMemory(t *testing.T) {
	room := []byte{1, 2, 3, 4, 5, 6}
	out := varint.Put(room[:2], 9, 9)
	plain := varint.Put(room)
	out[0], plain[0] = 77, 77
	if !bytes.Equal(room, []byte{1, 2, 3, 4, 5, 6}) {
		t.Error("Put", room)
	}
	l := []uint64{1, 2}
	s := []int64{1, 2}
	b, d := varint.Put(nil, l...), varint.Deltas(s...)
	got, _ := varint.All(b)
	undone, _ := varint.Undeltas(d)
	if !slices.Equal(l, []uint64{1, 2}) || !slices.Equal(s, []int64{1, 2}) || !bytes.Equal(b, []byte{1, 2}) || !bytes.Equal(d, []byte{2, 2}) {
		t.Error(l, s, b, d)
	}
	got[0], undone[0] = 77, 77
	again, _ := varint.All(b)
	if again[0] != 1 || l[0] != 1 || s[0] != 1 {
		t.Error("answers share memory")
	}
}

// Each call takes any argument, ends, and answers the same again, whatever was called between.
func TestAny(t *testing.T) {
	r := rand.New(rand.NewSource(3))
	var inputs [][]byte
	for range 500 {
		b := make([]byte, r.Intn(40))
		r.Read(b)
		inputs = append(inputs, b)
	}
	numbers := some(r, 200)
	answers := func() string {
		out := ""
		for _, b := range inputs {
			n, size := varint.Get(b)
			l, ok := varint.All(b)
			d, same := varint.Undeltas(b)
			out += fmt.Sprintln(n, size, l, ok, d, same)
		}
		for _, n := range numbers {
			out += fmt.Sprintln(varint.Size(n), varint.Fold(int64(n)), varint.Unfold(n), varint.Put(nil, n, ^n), varint.Deltas(int64(n), int64(^n)))
		}
		return out
	}
	if answers() != answers() {
		t.Error("another answer to the same call")
	}
}
