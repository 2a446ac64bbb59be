package pack_test

import (
	"bytes"
	"fmt"
	"math"
	"math/rand"
	"slices"
	"testing"

	"brougham/pack"
)

// P2.1

func TestFields(t *testing.T) {
	for i, x := range []struct{ got, want pack.Field }{
		{pack.B(0), pack.Field{Bytes: 1}}, {pack.B(255), pack.Field{Bytes: 1, N: 255}},
		{pack.H(0), pack.Field{Bytes: 2}}, {pack.H(65535), pack.Field{Bytes: 2, N: 65535}},
		{pack.W(0), pack.Field{Bytes: 4}}, {pack.W(math.MaxUint32), pack.Field{Bytes: 4, N: math.MaxUint32}},
		{pack.Q(0), pack.Field{Bytes: 8}}, {pack.Q(math.MaxUint64), pack.Field{Bytes: 8, N: math.MaxUint64}},
		{pack.Flag(true), pack.Field{Bytes: 1, N: 1}}, {pack.Flag(false), pack.Field{Bytes: 1}},
	} {
		if x.got != x.want {
			t.Error(i, x.got, x.want)
		}
	}
}

func TestPut(t *testing.T) {
	for _, x := range []struct {
		b    []byte
		l    []pack.Field
		want string
	}{
		{nil, nil, ""},
		{[]byte{7, 8}, nil, "0708"},
		{nil, []pack.Field{pack.H(258), pack.B(3)}, "010203"},
		{[]byte{9}, []pack.Field{pack.B(1), pack.Flag(true), pack.Flag(false)}, "09010100"},
		{nil, []pack.Field{pack.W(0x01020304), pack.Q(0x05060708090a0b0c)}, "0102030405060708090a0b0c"},
		{nil, []pack.Field{{Bytes: 3, N: 0x1020304}}, "020304"},
		{nil, []pack.Field{{Bytes: 1, N: 0xabcd}}, "cd"},
		{nil, []pack.Field{{Bytes: 5, N: 0x0102030405060708}, {Bytes: 6, N: 1}, {Bytes: 7, N: math.MaxUint64}}, "0405060708" + "000000000001" + "ffffffffffffff"},
		{nil, []pack.Field{{Bytes: 8, N: 1}}, "0000000000000001"},
		{[]byte{9}, []pack.Field{{}, {Bytes: 0, N: 1}, {Bytes: 9, N: 1}, {Bytes: -1, N: 1}, pack.B(5), {Bytes: math.MaxInt, N: 1}, {Bytes: math.MinInt, N: 1}}, "0905"},
	} {
		if got := fmt.Sprintf("%x", pack.Put(x.b, x.l...)); got != x.want {
			t.Errorf("Put(%v, %v): %s, not %s", x.b, x.l, got, x.want)
		}
		if got := pack.Size(x.l...); len(x.b)+got != len(x.want)/2 {
			t.Errorf("Size(%v): %d", x.l, got)
		}
	}
}

func TestSize(t *testing.T) {
	if n := pack.Size(); n != 0 {
		t.Error(n)
	}
	if n := pack.Size(pack.B(1), pack.H(1), pack.W(1), pack.Q(1), pack.Flag(true)); n != 16 {
		t.Error(n)
	}
	for n := -3; n < 20; n++ {
		want := 0
		if n >= 1 && n <= 8 {
			want = n
		}
		if got := pack.Size(pack.Field{Bytes: n, N: math.MaxUint64}); got != want {
			t.Error(n, got)
		}
	}
	if n := pack.Size(pack.Field{Bytes: math.MaxInt}, pack.Field{Bytes: math.MinInt}, pack.Field{Bytes: math.MaxInt}, pack.B(0)); n != 1 {
		t.Error(n)
	}
}

// P2.2

func TestGet(t *testing.T) {
	b := []byte{1, 2, 3, 4, 5, 6, 7, 8, 9, 10}
	for _, x := range []struct {
		b     []byte
		sizes []int
		want  []uint64
		rest  int
	}{
		{nil, nil, nil, 0},
		{b, nil, nil, 10},
		{b[:3], []int{2}, []uint64{258}, 1},
		{b, []int{1, 2, 3, 4}, []uint64{1, 0x0203, 0x040506, 0x0708090a}, 0},
		{b, []int{8}, []uint64{0x0102030405060708}, 2},
		{b, []int{7, 3}, []uint64{0x01020304050607, 0x08090a}, 0},
		{b, []int{5, 1}, []uint64{0x0102030405, 6}, 4},
		{b, []int{6}, []uint64{0x010203040506}, 4},
		{bytes.Repeat([]byte{255}, 8), []int{8}, []uint64{math.MaxUint64}, 0},
		{make([]byte, 9), []int{8, 1}, []uint64{0, 0}, 0},
	} {
		l, rest, ok := pack.Get(x.b, x.sizes...)
		if !ok || !slices.Equal(l, x.want) || !bytes.Equal(rest, x.b[len(x.b)-x.rest:]) {
			t.Errorf("Get(%v, %v): %v, %v, %v", x.b, x.sizes, l, rest, ok)
		}
		l, ok = pack.All(x.b, x.sizes...)
		if ok != (x.rest == 0) || ok && !slices.Equal(l, x.want) || !ok && len(l) != 0 {
			t.Errorf("All(%v, %v): %v, %v", x.b, x.sizes, l, ok)
		}
	}
}

func TestGetWrong(t *testing.T) {
	b := []byte{1, 2, 3, 4, 5, 6, 7, 8, 9, 10}
	for _, sizes := range [][]int{
		{8, 3}, {8, 2, 1}, {4, 4, 4}, {0}, {-1}, {9}, {10}, {1, 0}, {0, 1}, {1, 0, 1}, {1, 2, 9}, {2, -1}, {2, -1, 1}, {8, 8},
		{10, 1}, {-2, 4}, {math.MaxInt}, {math.MinInt}, {1, math.MaxInt}, {math.MaxInt, math.MaxInt, 2}, {5, 5, 0}, {5, 5, 1},
	} {
		if l, rest, ok := pack.Get(b, sizes...); ok || len(l) != 0 || len(rest) != 0 {
			t.Errorf("Get(%v): %v, %v, %v", sizes, l, rest, ok)
		}
		if l, ok := pack.All(b, sizes...); ok || len(l) != 0 {
			t.Errorf("All(%v): %v, %v", sizes, l, ok)
		}
	}
	for _, size := range []int{1, 2, 8} {
		if _, _, ok := pack.Get(nil, size); ok {
			t.Error("Get of nothing", size)
		}
		if _, _, ok := pack.Get(make([]byte, size-1, 16), size); ok { // what lies behind the length isn't read
			t.Error("Get of one byte too few", size)
		}
	}
	for n := range 9 {
		if _, ok := pack.All(make([]byte, n), 4); ok != (n == 4) {
			t.Error("All", n, ok)
		}
	}
}

// P2.3

func TestPutIsGot(t *testing.T) {
	r := rand.New(rand.NewSource(1))
	for range 5000 {
		ahead, behind := make([]byte, r.Intn(4)), make([]byte, r.Intn(4))
		r.Read(ahead)
		r.Read(behind)
		var l []pack.Field
		var sizes []int
		var want []uint64
		for range len(ahead) {
			sizes = append(sizes, 1)
		}
		for _, x := range ahead {
			want = append(want, uint64(x))
		}
		for range r.Intn(6) {
			f := pack.Field{Bytes: r.Intn(12) - 1, N: r.Uint64()}
			l = append(l, f)
			if f.Bytes >= 1 && f.Bytes <= 8 {
				sizes = append(sizes, f.Bytes)
				want = append(want, f.N&(math.MaxUint64>>(64-8*f.Bytes)))
			}
		}
		b := pack.Put(ahead, l...)
		if len(b) != len(ahead)+pack.Size(l...) {
			t.Fatal(len(b), l)
		}
		if got, ok := pack.All(b, sizes...); !ok || !slices.Equal(got, want) {
			t.Fatal(got, ok, want)
		}
		got, rest, ok := pack.Get(append(b, behind...), sizes...)
		if !ok || !slices.Equal(got, want) || !bytes.Equal(rest, behind) {
			t.Fatal(got, rest, ok, want)
		}
	}
}

func TestNewMemory(t *testing.T) {
	room := []byte{1, 2, 3, 4, 5, 6}
	out := pack.Put(room[:2], pack.H(0x0909))
	if !bytes.Equal(room, []byte{1, 2, 3, 4, 5, 6}) {
		t.Error("Put writes behind what it was given", room)
	}
	out[0] = 77
	plain := pack.Put(room)
	if room[0] != 1 || len(plain) != 6 {
		t.Error("Put hands out what it was given")
	}
	plain[1] = 77
	l, rest, _ := pack.Get(room, 1, 1)
	_, whole, _ := pack.Get(room)
	l[0], rest[0], whole[1] = 77, 77, 77
	if !bytes.Equal(room, []byte{1, 2, 3, 4, 5, 6}) {
		t.Error("Get hands out what it was given", room)
	}
	room[2] = 88
	if rest[0] != 77 {
		t.Error("Get hands out what it was given")
	}
}

// P1, P2

// Each call takes any argument, ends, and answers the same again, whatever was called between.
func TestAny(t *testing.T) {
	odd := []int{math.MinInt, -1, 0, 1, 2, 7, 8, 9, 255, 256, 257, math.MaxInt32, math.MaxInt}
	answers := func() string {
		out := ""
		for _, long := range []int{0, 1, 8, 17} {
			b := bytes.Repeat([]byte{200}, long)
			for _, x := range odd {
				for _, y := range odd {
					f, g := pack.Field{Bytes: x, N: 1 << 63}, pack.Field{Bytes: y, N: math.MaxUint64}
					l, rest, ok := pack.Get(b, x, y)
					m, all := pack.All(b, x, y)
					out += fmt.Sprintln(l, rest, ok, m, all, pack.Put(b, f, g), pack.Size(f, g))
				}
			}
		}
		return out
	}
	if answers() != answers() {
		t.Error("another answer to the same call")
	}
	sizes := make([]int, 1<<20)
	for i := range sizes {
		sizes[i] = 1
	}
	if l, ok := pack.All(make([]byte, 1<<20), sizes...); !ok || len(l) != 1<<20 {
		t.Error(len(l), ok)
	}
	if l, ok := pack.All(make([]byte, 1<<20-1), sizes...); ok || len(l) != 0 {
		t.Error(len(l), ok)
	}
}

// Fields and sizes that are handed in aren't turned.
func TestArguments(t *testing.T) {
	l := []pack.Field{pack.B(1), {Bytes: 9, N: 2}, pack.W(3)}
	sizes := []int{1, 4}
	b := pack.Put(nil, l...)
	pack.Size(l...)
	got, _ := pack.All(b, sizes...)
	pack.Get(b, sizes...)
	if !slices.Equal(l, []pack.Field{{Bytes: 1, N: 1}, {Bytes: 9, N: 2}, {Bytes: 4, N: 3}}) || !slices.Equal(sizes, []int{1, 4}) || !slices.Equal(b, []byte{1, 0, 0, 0, 3}) {
		t.Error(l, sizes, b)
	}
	b[0] = 9
	if got[0] != 1 {
		t.Error("All hands out what it was given")
	}
}
