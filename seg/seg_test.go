package seg_test

import (
	"bytes"
	"encoding/binary"
	"encoding/hex"
	"fmt"
	"math"
	"math/rand"
	"slices"
	"strings"
	"testing"

	"brougham/api"
	"brougham/seg"
)

// body: so many bytes that aren't 0.
func body(many int) []byte { return bytes.Repeat([]byte{0xab}, many) }

// opt: an option with so many bytes.
func opt(kind byte, many int) api.Option { return api.Option{Kind: kind, Body: body(many)} }

// opts: so many options without bytes.
func opts(many int) []api.Option { return slices.Repeat([]api.Option{{Kind: 9}}, many) }

// plain: a segment's bytes, written another way, whether it may be or not.
func plain(s api.Segment) []byte {
	b := binary.BigEndian.AppendUint16(nil, s.Src)
	b = binary.BigEndian.AppendUint16(b, s.Dst)
	b = binary.BigEndian.AppendUint32(b, s.Seq)
	b = binary.BigEndian.AppendUint32(b, s.Ack)
	b = append(b, s.Flags)
	var l []byte
	for _, o := range s.Opts {
		l = append(append(l, o.Kind, byte(len(o.Body))), o.Body...)
	}
	b = append(append(b, byte(len(l))), l...)
	return append(b, s.Data...)
}

// same: do two segments say the same? A nil list is an empty one.
func same(a, b api.Segment) bool {
	return a.Src == b.Src && a.Dst == b.Dst && a.Seq == b.Seq && a.Ack == b.Ack && a.Flags == b.Flags && bytes.Equal(a.Data, b.Data) &&
		slices.EqualFunc(a.Opts, b.Opts, func(x, y api.Option) bool { return x.Kind == y.Kind && bytes.Equal(x.Body, y.Body) })
}

// deep: a segment that shares no memory with another one, made another way.
func deep(s api.Segment) api.Segment {
	s.Data = append([]byte(nil), s.Data...)
	var l []api.Option
	for _, o := range s.Opts {
		l = append(l, api.Option{Kind: o.Kind, Body: append([]byte(nil), o.Body...)})
	}
	s.Opts = l
	return s
}

// turn: each byte is another one, up to the capacity.
func turn(b []byte) {
	b = b[:cap(b)]
	for i := range b {
		b[i] ^= 0x55
	}
}

// spoil: each byte and each option that a segment holds is another one, up to the capacities.
func spoil(s api.Segment) {
	for i := range s.Opts[:cap(s.Opts)] {
		o := &s.Opts[:cap(s.Opts)][i]
		turn(o.Body)
		*o = api.Option{Kind: 77, Body: []byte("no")}
	}
	turn(s.Data)
}

func unhex(t *testing.T, s string) []byte {
	t.Helper()
	b, err := hex.DecodeString(s)
	if err != nil {
		t.Fatal(err)
	}
	return b
}

// drawn: a segment that may be.
func drawn(r *rand.Rand) api.Segment {
	s := api.Segment{Src: uint16(r.Uint32()), Dst: uint16(r.Uint32()), Seq: r.Uint32(), Ack: r.Uint32(), Flags: byte(r.Intn(8))}
	for left := r.Intn(201); left >= 2; {
		b := make([]byte, r.Intn(left-1))
		if r.Intn(3) > 0 {
			b = b[:min(len(b), r.Intn(9))]
		}
		r.Read(b)
		s.Opts = append(s.Opts, api.Option{Kind: byte(1 + r.Intn(255)), Body: b})
		left -= 2 + len(b)
	}
	s.Data = make([]byte, []int{0, 1, 8, 1023, 1024}[r.Intn(5)])
	r.Read(s.Data)
	return s
}

// P7.1

func TestEncode(t *testing.T) {
	for _, x := range []struct {
		s    api.Segment
		want string
	}{
		{api.Segment{}, "0000000000000000000000000000"},
		{api.Segment{Src: 1, Dst: 2, Seq: 3, Ack: 4, Flags: api.Syn, Opts: []api.Option{{Kind: 7, Body: []byte("ab")}}, Data: []byte("xyz")}, "000100020000000300000004" + "0104" + "07026162" + "78797a"},
		{api.Segment{Src: 0x0102, Dst: 0x0304, Seq: 0x05060708, Ack: 0x090a0b0c, Flags: api.Ack | api.Rst, Data: []byte{0}}, "0102030405060708090a0b0c" + "0600" + "00"},
		{api.Segment{Src: math.MaxUint16, Dst: math.MaxUint16, Seq: math.MaxUint32, Ack: math.MaxUint32, Flags: 7}, "ffffffffffffffffffffffff" + "0700"},
		{api.Segment{Opts: []api.Option{{Kind: 255}, {Kind: 1, Body: []byte{}}, {Kind: 255, Body: []byte{0, 9}}}}, "000000000000000000000000" + "0008" + "ff00" + "0100" + "ff020009"},
	} {
		b, e := seg.Encode(x.s)
		if got := hex.EncodeToString(b); e != api.OK || got != x.want {
			t.Errorf("Encode(%v): %s, %v, not %s", x.s, got, e, x.want)
		}
		if e := seg.Right(x.s); e != api.OK {
			t.Errorf("Right(%v): %v", x.s, e)
		}
	}
}

// Up to the limits, and one past each; where several errors apply, the first one.
func TestRight(t *testing.T) {
	flags := map[byte]api.Errno{0: api.OK, 1: api.OK, 2: api.OK, 4: api.OK, 7: api.OK, 8: api.ErrHeader, 9: api.ErrHeader, 16: api.ErrHeader, 128: api.ErrHeader, 255: api.ErrHeader}
	options := []struct {
		l []api.Option
		e api.Errno
	}{
		{nil, api.OK}, {[]api.Option{}, api.OK}, {[]api.Option{{Kind: 1}}, api.OK}, {[]api.Option{{Kind: 255, Body: []byte{0}}}, api.OK},
		{opts(100), api.OK}, {opts(101), api.ErrOptions}, {append(opts(99), opt(1, 1)), api.ErrOptions}, {append(opts(98), opt(1, 2)), api.OK}, {append(opts(98), opt(1, 3)), api.ErrOptions},
		{[]api.Option{opt(1, 198)}, api.OK}, {[]api.Option{opt(1, 199)}, api.ErrOptions}, {[]api.Option{opt(1, 98), opt(2, 98)}, api.OK}, {[]api.Option{opt(1, 98), opt(2, 99)}, api.ErrOptions},
		{[]api.Option{opt(1, 200)}, api.ErrOptions}, {[]api.Option{opt(1, 255)}, api.ErrOptions}, {[]api.Option{opt(1, 256)}, api.ErrOptions}, {[]api.Option{opt(1, 65536+8)}, api.ErrOptions}, {opts(128), api.ErrOptions}, {opts(1 << 16), api.ErrOptions},
		{[]api.Option{{}}, api.ErrOptions}, {[]api.Option{{Body: []byte{1, 2}}}, api.ErrOptions}, {[]api.Option{{Kind: 3}, {Kind: 0}}, api.ErrOptions}, {[]api.Option{{Kind: 0}, {Kind: 3}}, api.ErrOptions},
	}
	data := map[int]api.Errno{0: api.OK, 1: api.OK, 1023: api.OK, 1024: api.OK, 1025: api.ErrLong, 2048: api.ErrLong, 65536: api.ErrLong, 65536 + 8: api.ErrLong}
	for f, one := range flags {
		for i, l := range options {
			for n, three := range data {
				s := api.Segment{Src: 5, Flags: f, Opts: l.l, Data: body(n)}
				want := one
				if want == api.OK {
					want = l.e
				}
				if want == api.OK {
					want = three
				}
				if e := seg.Right(s); e != want {
					t.Errorf("Right of flags %d, options %d, %d of data: %v, not %v", f, i, n, e, want)
				}
				b, e := seg.Encode(s)
				if e != want || e != api.OK && len(b) != 0 || e == api.OK && !bytes.Equal(b, plain(s)) {
					t.Errorf("Encode of flags %d, options %d, %d of data: %v, not %v", f, i, n, e, want)
				}
			}
		}
	}
}

// The head of any segment, whether it may be or not: the first thirteen bytes.
func TestHeader(t *testing.T) {
	r := rand.New(rand.NewSource(1))
	for f := range 256 {
		s := drawn(r)
		s.Flags = byte(f)
		if got := seg.Header(s); !bytes.Equal(got, plain(s)[:13]) {
			t.Errorf("Header of flags %d: %x", f, got)
		}
		s.Opts, s.Data = []api.Option{{}, opt(1, 300)}, body(5000)
		if got := seg.Header(s); !bytes.Equal(got, plain(s)[:13]) {
			t.Errorf("Header of flags %d, of what may not be: %x", f, got)
		}
	}
	if got := seg.Header(api.Segment{}); !bytes.Equal(got, make([]byte, 13)) {
		t.Errorf("%x", got)
	}
	if seg.Head != 14 {
		t.Error(seg.Head)
	}
}

// P7.2

func TestParse(t *testing.T) {
	s, e := seg.Parse(make([]byte, 14))
	if e != api.OK || !same(s, api.Segment{}) {
		t.Error(s, e)
	}
	s, e = seg.Parse(unhex(t, "0102030405060708090a0b0c"+"0509"+"ff00"+"01026162"+"0101ff"+"00ff"))
	want := api.Segment{Src: 0x0102, Dst: 0x0304, Seq: 0x05060708, Ack: 0x090a0b0c, Flags: 5, Opts: []api.Option{{Kind: 255}, {Kind: 1, Body: []byte("ab")}, {Kind: 1, Body: []byte{255}}}, Data: []byte{0, 255}}
	if e != api.OK || !same(s, want) {
		t.Error(s, e)
	}
	s, e = seg.Parse(bytes.Repeat([]byte{255}, 12))
	if e != api.ErrHeader || !same(s, api.Segment{}) {
		t.Error(s, e)
	}
}

// Bytes with one head, of which the flags and the size of the options are turned.
func TestParseWrong(t *testing.T) {
	fit := opt(1, 198)
	many := func(l ...[]byte) []byte { return slices.Concat(l...) }
	for _, x := range []struct {
		flags, size byte
		rest        []byte
		want        api.Errno
	}{
		{0, 0, nil, api.OK}, {7, 0, nil, api.OK}, {8, 0, nil, api.ErrHeader}, {9, 0, nil, api.ErrHeader}, {255, 0, nil, api.ErrHeader}, {128, 0, body(9), api.ErrHeader},
		{0, 1, nil, api.ErrOptions}, {0, 1, []byte{5}, api.ErrOptions}, {0, 1, []byte{5, 0}, api.ErrOptions}, {0, 2, []byte{5}, api.ErrOptions}, {0, 2, []byte{5, 0}, api.OK}, {0, 2, []byte{0, 0}, api.ErrOptions}, {0, 2, []byte{5, 1}, api.ErrOptions}, {0, 2, []byte{5, 1, 9}, api.ErrOptions}, {0, 3, []byte{5, 1, 9}, api.OK}, {0, 3, []byte{5, 0, 9}, api.ErrOptions}, {0, 3, []byte{5, 2, 9}, api.ErrOptions}, {0, 3, []byte{5, 255, 9}, api.ErrOptions},
		{0, 4, []byte{5, 0, 5, 0}, api.OK}, {0, 4, []byte{5, 0, 0, 0}, api.ErrOptions}, {0, 4, []byte{0, 0, 5, 0}, api.ErrOptions}, {0, 4, []byte{5, 0, 5, 0}[:3], api.ErrOptions}, {0, 3, []byte{5, 0, 5, 0}, api.ErrOptions}, {0, 4, []byte{5, 2, 0, 0}, api.OK},
		{0, 200, many([]byte{1, 198}, fit.Body), api.OK}, {0, 200, many([]byte{1, 198}, fit.Body[1:]), api.ErrOptions}, {0, 200, many([]byte{1, 197}, fit.Body), api.ErrOptions}, {0, 200, many([]byte{1, 199}, fit.Body, []byte{1}), api.ErrOptions}, {0, 200, slices.Repeat([]byte{1, 0}, 100), api.OK}, {0, 200, slices.Repeat([]byte{1, 0}, 99), api.ErrOptions},
		{0, 201, many([]byte{1, 199}, body(199)), api.ErrOptions}, {0, 202, slices.Repeat([]byte{1, 0}, 101), api.ErrOptions}, {0, 255, many([]byte{1, 253}, body(253)), api.ErrOptions}, {0, 255, body(1200), api.ErrOptions},
		{0, 0, body(1024), api.OK}, {0, 0, body(1025), api.ErrLong}, {0, 0, body(70000), api.ErrLong}, {0, 2, many([]byte{5, 0}, body(1024)), api.OK}, {0, 2, many([]byte{5, 0}, body(1025)), api.ErrLong}, {7, 200, many(slices.Repeat([]byte{1, 0}, 100), body(1024)), api.OK}, {7, 200, many(slices.Repeat([]byte{1, 0}, 100), body(1025)), api.ErrLong},
		{8, 1, body(2000), api.ErrHeader}, {8, 0, body(2000), api.ErrHeader}, {8, 255, nil, api.ErrHeader}, {0, 1, body(2000), api.ErrOptions}, {0, 2, many([]byte{0, 0}, body(2000)), api.ErrOptions}, {0, 201, many([]byte{1, 199}, body(2000)), api.ErrOptions},
	} {
		b := append(unhex(t, "0102030405060708090a0b0c"), x.flags, x.size)
		b = append(b, x.rest...)
		s, e := seg.Parse(b)
		if e != x.want || e != api.OK && !same(s, api.Segment{}) || e == api.OK && !bytes.Equal(plain(s), b) {
			t.Errorf("Parse of flags %d, size %d, %d behind: %v, not %v", x.flags, x.size, len(x.rest), e, x.want)
		}
	}
}

// Too few bytes, whatever they are and whatever lies behind them.
func TestParseShort(t *testing.T) {
	for n := range 14 {
		for _, x := range []byte{0, 1, 8, 255} {
			room := bytes.Repeat([]byte{x}, 40)
			if s, e := seg.Parse(room[:n]); e != api.ErrHeader || !same(s, api.Segment{}) {
				t.Errorf("%d bytes %d: %v, %v", n, x, s, e)
			}
		}
	}
	room := append(make([]byte, 13), 2, 5, 0)
	for n, want := range map[int]api.Errno{14: api.ErrOptions, 15: api.ErrOptions, 16: api.OK} {
		if s, e := seg.Parse(room[:n]); e != want {
			t.Errorf("%d bytes: %v, %v", n, s, e)
		}
	}
	if s, e := seg.Parse(nil); e != api.ErrHeader {
		t.Error(s, e)
	}
}

// areOptions: are some bytes options whole, one behind the other? Asked from the end on.
func areOptions(b []byte) bool {
	whole := make([]bool, len(b)+1) // by where they begin: the bytes from there on
	whole[len(b)] = true
	for i := len(b) - 2; i >= 0; i-- {
		end := i + 2 + int(b[i+1])
		whole[i] = b[i] != 0 && end <= len(b) && whole[end]
	}
	return whole[0]
}

// All options of few bytes, of few values.
func TestParseEach(t *testing.T) {
	values := []byte{0, 1, 2, 4, 255}
	for size := range 7 {
		many := 1
		for range size {
			many *= len(values)
		}
		for n := range many {
			b := append(make([]byte, 13), byte(size))
			for range size {
				b = append(b, values[n%len(values)])
				n /= len(values)
			}
			want := api.OK
			if !areOptions(b[14:]) {
				want = api.ErrOptions
			}
			b = append(b, "data"...)
			s, e := seg.Parse(b)
			if e != want || e == api.OK && (!bytes.Equal(plain(s), b) || string(s.Data) != "data") || e != api.OK && !same(s, api.Segment{}) {
				t.Fatalf("%x: %v, %v", b, s, e)
			}
		}
	}
}

// P7.3

func TestTake(t *testing.T) {
	for _, n := range []int{0, 1, 2, 255, 1024, 1025, 65536, 1 << 20} {
		for f := range 256 {
			want := uint32(n)
			if f%2 == 1 {
				want++
			}
			if got := seg.Take(api.Segment{Flags: byte(f), Seq: math.MaxUint32, Opts: []api.Option{opt(1, 3)}, Data: make([]byte, n)}); got != want {
				t.Fatalf("Take of flags %d, %d of data: %d", f, n, got)
			}
		}
	}
}

func TestFirst(t *testing.T) {
	s := api.Segment{Opts: []api.Option{{Kind: 3, Body: []byte("a")}, {Kind: 255}, {Kind: 3, Body: []byte("b")}, {Kind: 0, Body: []byte("c")}, {Kind: 4, Body: body(300)}}}
	for kind, want := range map[byte]string{3: "a", 255: "", 0: "c", 4: string(body(300))} {
		if o, ok := seg.First(s, kind); !ok || o.Kind != kind || string(o.Body) != want {
			t.Errorf("First(%d): %v, %v", kind, o, ok)
		}
	}
	for _, kind := range []byte{1, 2, 5, 254} {
		if o, ok := seg.First(s, kind); ok || o.Kind != 0 || len(o.Body) != 0 {
			t.Errorf("First(%d): %v, %v", kind, o, ok)
		}
	}
	for kind := range 256 {
		if o, ok := seg.First(api.Segment{Data: body(9)}, byte(kind)); ok || o.Kind != 0 || len(o.Body) != 0 {
			t.Errorf("First(%d) of none: %v, %v", kind, o, ok)
		}
	}
	o, _ := seg.First(s, 3)
	o.Body[0] = 'x'
	if string(s.Opts[0].Body) != "a" {
		t.Error("First hands out what it was given")
	}
}

func TestOf(t *testing.T) {
	r := rand.New(rand.NewSource(2))
	for range 200 {
		s, x := drawn(r), drawn(r)
		s.Flags = byte(r.Intn(256))
		old := deep(s)
		want := s
		want.Opts = x.Opts
		if got := seg.Of(s, x.Opts...); !same(got, want) || !same(s, old) {
			t.Fatal(got, want)
		}
	}
	s := api.Segment{Src: 4, Opts: opts(3), Data: []byte("d")}
	if got := seg.Of(s); len(got.Opts) != 0 || got.Src != 4 || string(got.Data) != "d" {
		t.Error(got)
	}
	if got := seg.Of(s, opt(0, 300), opt(0, 0)); len(got.Opts) != 2 || len(got.Opts[0].Body) != 300 || got.Opts[1].Kind != 0 {
		t.Error(got)
	}
	if got := seg.Of(api.Segment{}); !same(got, api.Segment{}) {
		t.Error(got)
	}
}

// Of shares the data and the options' bodies, but neither a list of options nor what lies behind.
func TestOfShares(t *testing.T) {
	room := []byte("databody")
	data, one := room[:4], room[4:6]
	l := make([]api.Option, 1, 4)
	l[0] = api.Option{Kind: 5, Body: one}
	own := []api.Option{{Kind: 1}}
	s := api.Segment{Opts: own, Data: data}
	got := seg.Of(s, l...)
	room[0], room[4] = 'D', 'B'
	if string(got.Data) != "Data" || string(got.Opts[0].Body) != "Bo" {
		t.Error("Of doesn't share the bytes", got)
	}
	got.Opts[0].Kind = 6
	_ = append(got.Opts, api.Option{Kind: 7})
	_ = append(got.Data, 'x')
	_ = append(got.Opts[0].Body, 'x')
	if l[0].Kind != 5 || own[0].Kind != 1 || l[:2][1].Kind != 0 || string(room) != "DataBody" {
		t.Error("Of shares a list of options, or what lies behind a list", l, string(room))
	}
	if cap(got.Data) != 4 || cap(got.Opts[0].Body) != 2 {
		t.Error("Of hands out what lies behind a list")
	}
}

func TestCopy(t *testing.T) {
	r := rand.New(rand.NewSource(3))
	for range 200 {
		s := drawn(r)
		s.Flags = byte(r.Intn(256))
		if r.Intn(4) == 0 {
			s.Opts, s.Data = append(s.Opts, opt(0, 300)), body(3000)
		}
		old := deep(s)
		one, two := seg.Copy(s), seg.Copy(s)
		if !same(one, old) || !same(s, old) {
			t.Fatal(one, old)
		}
		spoil(one)
		if !same(s, old) || !same(two, old) {
			t.Fatal("a copy shares its memory")
		}
		spoil(s)
		if !same(two, old) {
			t.Fatal("a copy shares its memory")
		}
	}
	if got := seg.Copy(api.Segment{}); !same(got, api.Segment{}) {
		t.Error(got)
	}
}

// One body in two options: of a copy each has its own.
func TestCopyTwice(t *testing.T) {
	b := []byte("ab")
	c := seg.Copy(api.Segment{Opts: []api.Option{{Kind: 1, Body: b}, {Kind: 2, Body: b}}, Data: b})
	c.Opts[0].Body[0] = 'x'
	c.Data[1] = 'y'
	if string(c.Opts[1].Body) != "ab" || string(c.Opts[0].Body) != "xb" || string(c.Data) != "ay" {
		t.Error(c)
	}
}

// P7.4

func TestEncodedIsParsed(t *testing.T) {
	r := rand.New(rand.NewSource(4))
	for range 3000 {
		s := drawn(r)
		b, e := seg.Encode(s)
		if e != api.OK || !bytes.Equal(b, plain(s)) {
			t.Fatalf("%v: %x, %v", s, b, e)
		}
		if x, e := seg.Parse(b); e != api.OK || !same(x, s) {
			t.Fatalf("%v: %v, %v", s, x, e)
		}
	}
}

// Bytes that are a segment's but for one of them, or but for their end.
func TestParsedIsEncoded(t *testing.T) {
	r := rand.New(rand.NewSource(5))
	were := map[api.Errno]int{}
	for range 20000 {
		s := drawn(r)
		b := plain(s)
		switch r.Intn(4) {
		case 0:
			b = b[:r.Intn(len(b)+1)]
		case 1:
			b = append(b, byte(r.Intn(256)))
		case 2:
			b[r.Intn(len(b))] ^= 1 << r.Intn(8)
		case 3:
			b[min(12+r.Intn(6), len(b)-1)] = byte(r.Intn(256))
		}
		old := bytes.Clone(b)
		x, e := seg.Parse(b)
		were[e]++
		if e != api.OK {
			continue
		}
		if back, e := seg.Encode(x); e != api.OK || !bytes.Equal(back, old) {
			t.Fatalf("%x: %v: %x, %v", old, x, back, e)
		}
	}
	for _, e := range []api.Errno{api.OK, api.ErrHeader, api.ErrOptions, api.ErrLong} {
		if were[e] == 0 {
			t.Errorf("none of %v", e)
		}
	}
	if len(were) != 4 {
		t.Error(were)
	}
}

// P1, P2

// odd: segments of which few may be.
func odd() []api.Segment {
	var l []api.Segment
	for _, o := range [][]api.Option{nil, {}, opts(1), opts(100), opts(101), opts(5000), {{}}, {opt(0, 255)}, {opt(255, 256)}, {opt(1, 198)}, {opt(1, 1<<17), opt(0, 1<<16)}} {
		for _, d := range [][]byte{nil, {}, body(1), body(1024), body(1025), body(1 << 17)} {
			for _, f := range []byte{0, 1, 7, 8, 255} {
				l = append(l, api.Segment{Src: 1, Seq: math.MaxUint32, Flags: f, Opts: o, Data: d})
			}
		}
	}
	return l
}

// Each call takes any argument, ends, turns nothing, and answers the same again, whatever was called between.
func TestAny(t *testing.T) {
	answers := func() string {
		var out strings.Builder
		for _, s := range odd() {
			old := deep(s)
			b, e := seg.Encode(s)
			o, ok := seg.First(s, 1)
			x := seg.Of(s, s.Opts...)
			fmt.Fprintln(&out, string(b), e, seg.Right(s), seg.Header(s), seg.Take(s), o.Kind, string(o.Body), ok, len(x.Opts), len(seg.Copy(x).Data))
			if !same(s, old) || !same(x, old) {
				t.Fatal("an argument is turned")
			}
		}
		for n := range 600 {
			for _, x := range []byte{0, 1, 2, 7, 255} {
				b := bytes.Repeat([]byte{x}, n)
				s, e := seg.Parse(b)
				fmt.Fprintln(&out, s, e)
				if !bytes.Equal(b, bytes.Repeat([]byte{x}, n)) {
					t.Fatal("an argument is turned")
				}
			}
		}
		return out.String()
	}
	if answers() != answers() {
		t.Error("another answer to the same call")
	}
	if s, e := seg.Parse(make([]byte, 1<<24)); e != api.ErrLong || !same(s, api.Segment{}) {
		t.Error(e)
	}
}

// What is answered is new memory; no list of it reaches into another one.
func TestAnswered(t *testing.T) {
	r := rand.New(rand.NewSource(6))
	for range 500 {
		s := drawn(r)
		old, b := deep(s), plain(s)
		e, _ := seg.Encode(s)
		turn(e)
		turn(seg.Header(s))
		if !same(s, old) {
			t.Fatal("an answer shares its memory with the argument")
		}
		one, _ := seg.Parse(b)
		two, _ := seg.Parse(b)
		for i := range one.Opts {
			_ = append(one.Opts[i].Body, 1, 2, 3, 4)
		}
		_ = append(one.Data, 1, 2, 3, 4)
		if !same(one, old) {
			t.Fatal("what is put behind one list stands in another one")
		}
		spoil(one)
		if !bytes.Equal(b, plain(old)) || !same(two, old) {
			t.Fatal("an answer shares its memory")
		}
		clear(b)
		if !same(two, old) {
			t.Fatal("an answer shares its memory with the argument")
		}
	}
}

// Of bytes with a capacity beyond them nothing that lies there is read or handed out.
func TestBehind(t *testing.T) {
	room := append(plain(api.Segment{Opts: []api.Option{{Kind: 1, Body: []byte("a")}}, Data: []byte("d")}), "secret"...)
	s, e := seg.Parse(room[:len(room)-6])
	if e != api.OK || string(s.Data) != "d" || len(s.Opts) != 1 || cap(s.Opts[0].Body) != 1 {
		t.Fatal(s, e)
	}
	hidden := api.Segment{Opts: []api.Option{{Kind: 1, Body: room[:2]}, {Kind: 2}}[:1], Data: room[:3]}
	o, _ := seg.First(hidden, 1)
	c := seg.Copy(hidden)
	h, _ := seg.Encode(hidden)
	for _, l := range [][]byte{s.Data, o.Body, c.Data, c.Opts[0].Body, seg.Of(hidden, hidden.Opts...).Data, h} {
		for _, x := range l[len(l):cap(l)] {
			if x != 0 {
				t.Errorf("%d behind %v", x, l)
			}
		}
	}
	for _, l := range [][]api.Option{c.Opts, seg.Of(hidden, hidden.Opts...).Opts} {
		for _, x := range l[len(l):cap(l)] {
			if x.Kind != 0 || x.Body != nil {
				t.Errorf("%v behind %v", x, l)
			}
		}
	}
	if o, ok := seg.First(hidden, 2); ok {
		t.Error("First looks behind the list", o)
	}
}
