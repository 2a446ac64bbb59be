package mac_test

import (
	"bytes"
	"encoding/binary"
	"encoding/hex"
	"fmt"
	"math"
	"math/rand"
	"slices"
	"testing"

	"brougham/api"
	"brougham/mac"
	"brougham/opt"
	"brougham/seg"
	"brougham/sip"
)

var (
	shortKey = api.Pair{K0: 1, K1: 2}
	bytesKey = api.Pair{K0: 0x0706050403020100, K1: 0x0f0e0d0c0b0a0908} // of the bytes 0 to 15
	fullKey  = api.Pair{K0: math.MaxUint64, K1: math.MaxUint64}
)

// Segments without data whose headers are all 0, of some numbers, and as great as the fields let them be.
var (
	zeroHead  = api.Segment{}
	firstHead = api.Segment{Src: 5, Dst: 80, Seq: 9, Ack: 0x01020304, Flags: api.Ack}
	fullHead  = api.Segment{Src: math.MaxUint16, Dst: math.MaxUint16, Seq: math.MaxUint32, Ack: math.MaxUint32, Flags: 255}
)

// writes is what layer 8 writes as an option.
type writes interface{ Option() api.Option }

// with: the segment with these data.
func with(s api.Segment, data []byte) api.Segment {
	s.Data = data
	return s
}

// rising: so many bytes, from 0 on.
func rising(many int) []byte {
	b := make([]byte, many)
	for i := range b {
		b[i] = byte(i)
	}
	return b
}

// covered: what an option's sum covers, written another way.
func covered(s api.Segment, o api.Option) []byte {
	big := binary.BigEndian
	b := big.AppendUint16(big.AppendUint16(nil, s.Src), s.Dst)
	b = append(big.AppendUint32(big.AppendUint32(b, s.Seq), s.Ack), s.Flags)
	b = append(b, o.Kind, byte(len(o.Body)%256))
	for i := 0; i+8 < len(o.Body); i++ {
		b = append(b, o.Body[i])
	}
	b = append(b, byte(len(s.Data)/256%256), byte(len(s.Data)%256))
	return append(b, s.Data...)
}

// tagged: the option with a sum in place of its last eight bytes.
func tagged(o api.Option, tag uint64) api.Option {
	return api.Option{Kind: o.Kind, Body: binary.BigEndian.AppendUint64(bytes.Clone(o.Body[:len(o.Body)-8]), tag)}
}

// right: the option with the right sum in place of its last eight bytes, made without layer 10.
func right(k api.Pair, s api.Segment, o api.Option) api.Option {
	return tagged(o, sip.Sum(k, covered(s, o)))
}

// same: do two options say the same? A nil body is an empty one.
func same(a, b api.Option) bool { return a.Kind == b.Kind && bytes.Equal(a.Body, b.Body) }

func drawnSegment(r *rand.Rand) api.Segment {
	data := make([]byte, r.Intn(40))
	r.Read(data)
	return api.Segment{Src: uint16(r.Uint32()), Dst: uint16(r.Uint32()), Seq: r.Uint32(), Ack: r.Uint32(), Flags: byte(r.Intn(256)), Data: data}
}

func drawnKey(r *rand.Rand) api.Pair { return api.Pair{K0: r.Uint64(), K1: r.Uint64()} }

func is(r *rand.Rand) bool { return r.Intn(2) == 0 }

func drawnData(r *rand.Rand) opt.Data {
	return opt.Data{Fin: is(r), Probe: is(r), Seq: r.Uint64(), Ack: r.Uint64(), Win: r.Uint32(), Tagged: opt.Tagged{Tag: r.Uint64()}}
}

func drawnWord(r *rand.Rand) opt.Word {
	return opt.Word{Kind: byte(api.KindAdd + r.Intn(4)), Number: r.Uint32(), ID: byte(r.Intn(256)), Path: byte(r.Intn(256)), Backup: is(r), Tagged: opt.Tagged{Tag: r.Uint64()}}
}

// P10.1

func TestCover(t *testing.T) {
	const zeroes, first = "00000000000000000000000000", "00050050" + "00000009" + "01020304" + "02"
	for _, x := range []struct {
		s    api.Segment
		o    api.Option
		want string
	}{
		{zeroHead, api.Option{}, zeroes + "00" + "00" + "0000"},
		{firstHead, api.Option{}, first + "00" + "00" + "0000"},
		{fullHead, api.Option{Kind: 255}, "ffffffffffffffffffffffffff" + "ff" + "00" + "0000"},
		{firstHead, api.Option{Kind: 3, Body: rising(9)}, first + "03" + "09" + "00" + "0000"},
		{firstHead, api.Option{Kind: 3, Body: rising(10)}, first + "03" + "0a" + "0001" + "0000"},
		{firstHead, api.Option{Kind: 3, Body: rising(8)}, first + "03" + "08" + "0000"},
		{firstHead, api.Option{Kind: 3, Body: rising(7)}, first + "03" + "07" + "0000"},
		{firstHead, api.Option{Kind: 3, Body: rising(1)}, first + "03" + "01" + "0000"},
		{with(zeroHead, []byte("q")), api.Option{Kind: 3, Body: make([]byte, 9)}, zeroes + "03" + "09" + "00" + "0001" + "71"},
		{with(firstHead, []byte("abc")), api.Option{Kind: 7, Body: rising(15)}, first + "07" + "0f" + "00010203040506" + "0003" + "616263"},
	} {
		if got := hex.EncodeToString(mac.Cover(x.s, x.o)); got != x.want {
			t.Errorf("Cover(%v, %v): %s, not %s", x.s, x.o, got, x.want)
		}
	}
}

// Bodies of each length, on both sides of where their number of bytes goes round.
func TestCoverBodies(t *testing.T) {
	s := with(firstHead, []byte("abc"))
	for many := range 800 {
		o := api.Option{Kind: byte(many), Body: rising(many)}
		got := mac.Cover(s, o)
		if want := covered(s, o); !bytes.Equal(got, want) || len(got) != 13+2+max(many-8, 0)+2+3 || got[14] != byte(many%256) {
			t.Errorf("a body of %d bytes: %x, not %x", many, got, want)
		}
	}
}

// Data of each length that a segment may have, and on both sides of where their number of bytes goes round.
func TestCoverData(t *testing.T) {
	o := api.Option{Kind: 3, Body: rising(29)}
	check := func(many int) {
		s := with(firstHead, rising(many))
		got := mac.Cover(s, o)
		if want := covered(s, o); !bytes.Equal(got, want) || int(binary.BigEndian.Uint16(got[13+2+21:])) != many%65536 {
			t.Errorf("%d bytes of data: another cover", many)
		}
	}
	for many := range api.MaxData + 10 {
		check(many)
	}
	for _, many := range []int{32767, 32768, 65535, 65536, 65537, 65792, 2*65536 - 1, 2 * 65536, 2*65536 + 3} {
		check(many)
	}
}

// Each value of each byte of a header, flags that may not be among them, and each kind.
func TestCoverHeader(t *testing.T) {
	for value := range 256 {
		v := byte(value)
		for at := range 13 {
			h := rising(13)
			h[at] = v
			big := binary.BigEndian
			s := api.Segment{Src: big.Uint16(h), Dst: big.Uint16(h[2:]), Seq: big.Uint32(h[4:]), Ack: big.Uint32(h[8:]), Flags: h[12]}
			if got := mac.Cover(s, api.Option{Kind: v}); !bytes.Equal(got, append(bytes.Clone(h), v, 0, 0, 0)) {
				t.Errorf("byte %d of the header is %d: %x", at, value, got)
			}
		}
	}
}

// Which options a segment has, and how many, doesn't matter to the sum of one of them.
func TestCoverOthers(t *testing.T) {
	r := rand.New(rand.NewSource(1))
	for range 500 {
		s, o := drawnSegment(r), drawnWord(r).Option()
		want, tag := mac.Cover(s, o), mac.Tag(bytesKey, s, o)
		for many := range 4 {
			x := s
			for range many {
				x.Opts = append(x.Opts, drawnWord(r).Option(), o, api.Option{Kind: byte(r.Intn(256))})
			}
			if !bytes.Equal(mac.Cover(x, o), want) || mac.Tag(bytesKey, x, o) != tag {
				t.Fatalf("%v, %v: other options matter", x, o)
			}
		}
	}
}

// As OpenSSL makes them.
func TestTagKnown(t *testing.T) {
	for _, x := range []struct {
		k          api.Pair
		head       api.Segment
		kind       byte
		body, data int
		want       uint64
	}{
		{api.Pair{}, zeroHead, 0, 0, 0, 0x30fed5b17612e278},
		{fullKey, zeroHead, 0, 0, 0, 0xdae8fdca9aa3512c},
		{api.Pair{}, zeroHead, 1, 8, 0, 0x93e0c5b5b753ed40},
		{fullKey, zeroHead, 1, 8, 0, 0xe2e115ccccc996a1},
		{api.Pair{}, zeroHead, 1, 16, 3, 0x7348ac262d12b5a9},
		{fullKey, zeroHead, 1, 16, 3, 0x1680915e6cad75ce},
		{api.Pair{}, zeroHead, 3, 29, 1, 0xd5be7c4e460031dc},
		{fullKey, zeroHead, 3, 29, 1, 0x09662f62d1c54da6},
		{api.Pair{}, zeroHead, 3, 7, 5, 0xf0adae0d95872e2f},
		{fullKey, zeroHead, 3, 7, 5, 0x3f76c295f1b96815},
		{api.Pair{}, zeroHead, 7, 15, 1024, 0x6cc255bd52de221f},
		{fullKey, zeroHead, 255, 255, 0, 0xe4665c4d110fdc95},
		{api.Pair{}, zeroHead, 4, 256, 2, 0xb0a8379082760435},
		{fullKey, zeroHead, 4, 264, 2, 0xef18957370a7bf6e},
		{api.Pair{}, zeroHead, 3, 29, 65536, 0xd1e6e107683f2d5c},
		{bytesKey, firstHead, 0, 0, 0, 0xc84cdfb7b30cf408},
		{bytesKey, firstHead, 1, 8, 0, 0x096c5f45d9a3574a},
		{bytesKey, firstHead, 1, 16, 3, 0xf768f4c7a13238e5},
		{bytesKey, firstHead, 3, 29, 1, 0xf1100232c64084df},
		{bytesKey, firstHead, 3, 7, 5, 0x486d3d7e6a203e36},
		{bytesKey, firstHead, 7, 15, 1024, 0xef16fd64f598ab2b},
		{bytesKey, firstHead, 255, 255, 0, 0x25933d11901d7135},
		{bytesKey, firstHead, 4, 256, 2, 0x857bdf2876205770},
		{bytesKey, firstHead, 4, 264, 2, 0x9968e371cf8ac4ae},
		{bytesKey, firstHead, 3, 300, 65535, 0x36bf5a0ac86fedbf},
		{bytesKey, firstHead, 3, 29, 65536, 0xda0b7d2227dee51d},
		{bytesKey, firstHead, 3, 29, 65539, 0x05446aeb02b1bb48},
		{bytesKey, fullHead, 0, 0, 0, 0x5b596df0e63bc4c9},
		{bytesKey, fullHead, 1, 8, 0, 0x226116abb58363f4},
		{bytesKey, fullHead, 3, 29, 1, 0x3943cafb490432f7},
		{bytesKey, fullHead, 7, 15, 1024, 0x0036e4010c2810c2},
		{bytesKey, fullHead, 4, 264, 2, 0xacf4beea6ab4f347},
		{bytesKey, fullHead, 3, 300, 65535, 0x235d68d561b4d154},
		{bytesKey, fullHead, 3, 29, 65539, 0xd7c65971cd04d114},
	} {
		s, o := with(x.head, rising(x.data)), api.Option{Kind: x.kind, Body: rising(x.body)}
		if got := mac.Tag(x.k, s, o); got != x.want {
			t.Errorf("kind %d, %d and %d bytes: %x, not %x", x.kind, x.body, x.data, got, x.want)
		}
		if !mac.Right(x.k, s, o, x.want) {
			t.Errorf("kind %d, %d and %d bytes: not right", x.kind, x.body, x.data)
		}
	}
}

func TestTagDrawn(t *testing.T) {
	r := rand.New(rand.NewSource(2))
	for range 5000 {
		k, s, o := drawnKey(r), drawnSegment(r), api.Option{Kind: byte(r.Intn(256)), Body: make([]byte, r.Intn(40))}
		r.Read(o.Body)
		if got, want := mac.Tag(k, s, o), sip.Sum(k, covered(s, o)); got != want || got != sip.Sum(k, mac.Cover(s, o)) {
			t.Fatalf("Tag(%x, %v, %v): %x, not %x", k, s, o, got, want)
		}
	}
}

// Just one sum is right, whichever one stands in the option.
func TestRight(t *testing.T) {
	r := rand.New(rand.NewSource(3))
	for range 300 {
		k, s, o := drawnKey(r), drawnSegment(r), drawnData(r).Option()
		tag := sip.Sum(k, covered(s, o))
		for _, o := range []api.Option{o, tagged(o, 0), tagged(o, tag), tagged(o, ^tag)} {
			if !mac.Right(k, s, o, tag) {
				t.Fatalf("Right(%x, %v, %v, %x): false", k, s, o, tag)
			}
			stands := binary.BigEndian.Uint64(o.Body[len(o.Body)-8:])
			for _, wrong := range []uint64{0, ^tag, tag + 1, tag - 1, tag << 32, tag >> 32, stands} {
				if wrong != tag && mac.Right(k, s, o, wrong) {
					t.Fatalf("Right(%x, %v, %v, %x): true, as of %x", k, s, o, wrong, tag)
				}
			}
			for bit := range 64 {
				if mac.Right(k, s, o, tag^1<<bit) {
					t.Fatalf("Right(%x, %v, %v, %x), bit %d: true", k, s, o, tag, bit)
				}
			}
		}
		for bit := range 64 {
			if mac.Right(api.Pair{K0: k.K0 ^ 1<<bit, K1: k.K1}, s, o, tag) || mac.Right(api.Pair{K0: k.K0, K1: k.K1 ^ 1<<bit}, s, o, tag) {
				t.Fatalf("Right(%x, %v, %v, %x): true under a key another in bit %d", k, s, o, tag, bit)
			}
		}
	}
}

// P10.2

// As OpenSSL makes their sums. Answer and Tag are as they should be in what is written, whichever they were.
func TestSealedKnown(t *testing.T) {
	s := with(firstHead, []byte("abc"))
	for _, tag := range []uint64{0, 1, math.MaxUint64} {
		for _, answer := range []bool{false, true} {
			x := opt.Tagged{Tag: tag}
			for _, c := range []struct {
				got  api.Option
				kind byte
				want string
			}{
				{mac.Key(bytesKey, s, opt.Key{Answer: answer, Tagged: x}), 1, "0000000000000000" + "30c42e397587aa8e"},
				{mac.Key(bytesKey, s, opt.Key{Key: 0x0102030405060708, Answer: answer, Tagged: x}), 1, "0102030405060708" + "35984a0e124330ee"},
				{mac.Join(bytesKey, s, opt.Join{Answer: answer, Tagged: x}), 2, "00000000000000000000" + "21346a7d428724e1"},
				{mac.Join(bytesKey, s, opt.Join{Token: 0x01020304, Nonce: 0x05060708, ID: 9, Backup: true, Answer: answer, Tagged: x}), 2, "01020304050607080901" + "333cab9c1a389254"},
				{mac.Data(bytesKey, s, opt.Data{Tagged: x}), 3, "000000000000000000000000000000000000000000" + "f8ded1e8e214515c"},
				{mac.Data(bytesKey, s, opt.Data{Fin: true, Probe: true, Seq: 0x0102030405060708, Ack: 0x1112131415161718, Win: 0x21222324, Tagged: x}), 3, "030102030405060708111213141516171821222324" + "f456545cde9ac73c"},
				{mac.Word(bytesKey, s, opt.Word{Kind: 0, Number: 0x01020304, ID: 5, Path: 6, Backup: true, Tagged: x}), 0, "01020304050601" + "1311cbc096d787e6"},
				{mac.Word(bytesKey, s, opt.Word{Kind: 4, Number: 0x01020304, ID: 5, Path: 6, Backup: true, Tagged: x}), 4, "01020304050601" + "0b46a074a185dc0b"},
				{mac.Word(bytesKey, s, opt.Word{Kind: 5, Number: 0x01020304, ID: 5, Path: 6, Backup: true, Tagged: x}), 5, "01020304050601" + "967f3456eec9f784"},
				{mac.Word(bytesKey, s, opt.Word{Kind: 6, Number: 0x01020304, ID: 5, Path: 6, Backup: true, Tagged: x}), 6, "01020304050601" + "e8274f48c0e228bc"},
				{mac.Word(bytesKey, s, opt.Word{Kind: 7, Number: 0x01020304, ID: 5, Path: 6, Backup: true, Tagged: x}), 7, "01020304050601" + "6de1e266342f708c"},
				{mac.Word(bytesKey, s, opt.Word{Kind: 255, Number: 0x01020304, ID: 5, Path: 6, Backup: true, Tagged: x}), 255, "01020304050601" + "5d3a9025c74fcb2a"},
			} {
				if got := hex.EncodeToString(c.got.Body); c.got.Kind != c.kind || got != c.want {
					t.Errorf("Tag %x, Answer %v: kind %d, %s, not %d, %s", tag, answer, c.got.Kind, got, c.kind, c.want)
				}
			}
		}
	}
}

func TestSealedDrawn(t *testing.T) {
	r := rand.New(rand.NewSource(4))
	for range 3000 {
		k, s := drawnKey(r), drawnSegment(r)
		key := opt.Key{Key: r.Uint64(), Answer: is(r), Tagged: opt.Tagged{Tag: r.Uint64()}}
		join := opt.Join{Token: r.Uint32(), Nonce: r.Uint32(), ID: byte(r.Intn(256)), Backup: is(r), Answer: is(r), Tagged: opt.Tagged{Tag: r.Uint64()}}
		data, word := drawnData(r), drawnWord(r)
		word.Kind = byte(r.Intn(256))
		got := []api.Option{mac.Key(k, s, key), mac.Join(k, s, join), mac.Data(k, s, data), mac.Word(k, s, word)}
		key.Answer, join.Answer = true, true
		for i, x := range []writes{key, join, data, word} {
			if want := right(k, s, x.Option()); !same(got[i], want) {
				t.Fatalf("%+v: %v, not %v", x, got[i], want)
			}
		}
	}
}

// What layer 8 reads of them is what was to be sealed, with a sum that is right in just that segment.
func TestSealedIsRead(t *testing.T) {
	r := rand.New(rand.NewSource(5))
	for range 2000 {
		k, s := drawnKey(r), drawnSegment(r)
		key, join := opt.Key{Key: r.Uint64()}, opt.Join{Token: r.Uint32(), Nonce: r.Uint32(), ID: byte(r.Intn(256)), Backup: is(r)}
		o := mac.Key(k, s, key)
		x, ok := opt.ParseKey(o)
		if !ok || !x.Answer || x.Key != key.Key || !mac.Right(k, s, o, x.Tag) || mac.Right(drawnKey(r), s, o, x.Tag) {
			t.Fatalf("%+v: %+v, %v", key, x, ok)
		}
		o = mac.Join(k, s, join)
		y, ok := opt.ParseJoin(o)
		join.Answer = true
		join.Seal(y.Tag)
		if !ok || y != join || !mac.Right(k, s, o, y.Tag) || mac.Right(k, drawnSegment(r), o, y.Tag) {
			t.Fatalf("%+v: %+v, %v", join, y, ok)
		}
	}
}

// P10.3

// open: what Open answers, with zero beside false.
func open(t *testing.T, k api.Pair, s api.Segment) (opt.Data, bool) {
	t.Helper()
	d, ok := mac.Open(k, s)
	if !ok && d != (opt.Data{}) {
		t.Errorf("%v: %v beside false", s, d)
	}
	return d, ok
}

func TestOpen(t *testing.T) {
	s := with(firstHead, []byte("abc"))
	d := opt.Data{Probe: true, Seq: 7, Ack: 8, Win: 9}
	good := mac.Data(bytesKey, s, d)
	other := mac.Data(bytesKey, s, opt.Data{Seq: 1})
	short := right(bytesKey, s, api.Option{Kind: api.KindData, Body: make([]byte, 28)})
	marked := right(bytesKey, s, api.Option{Kind: api.KindData, Body: append([]byte{4}, make([]byte, 28)...)})
	word := mac.Word(bytesKey, s, opt.Word{Kind: api.KindClose})
	wrong := tagged(good, binary.BigEndian.Uint64(good.Body[21:])^1)
	elsewhere := mac.Data(bytesKey, firstHead, d)
	foreign := mac.Data(shortKey, s, d)
	for name, x := range map[string]struct {
		l  []api.Option
		ok bool
	}{
		"none": {nil, false}, "an empty list": {[]api.Option{}, false}, "the one": {[]api.Option{good}, true},
		"word": {[]api.Option{word}, false}, "word ahead": {[]api.Option{word, good}, true}, "word behind": {[]api.Option{good, word}, true},
		"word on both sides": {[]api.Option{word, word, good, word}, true},
		"others":             {[]api.Option{{}, {Kind: 1}, {Kind: 255, Body: rising(300)}, good, {Kind: 4}}, true},
		"twice":              {[]api.Option{good, good}, false}, "two": {[]api.Option{good, other}, false}, "two with word": {[]api.Option{other, word, good}, false},
		"a wrong sum": {[]api.Option{wrong}, false}, "a wrong one ahead": {[]api.Option{wrong, good}, false}, "a wrong one behind": {[]api.Option{good, wrong}, false},
		"one that can't be read": {[]api.Option{short}, false}, "such one ahead": {[]api.Option{short, good}, false}, "such one behind": {[]api.Option{good, short}, false},
		"an empty one ahead": {[]api.Option{{Kind: api.KindData}, good}, false}, "marks that none has": {[]api.Option{marked}, false}, "such ones behind": {[]api.Option{good, marked}, false},
		"of another segment": {[]api.Option{elsewhere}, false}, "of another key": {[]api.Option{foreign}, false},
		"no sum": {[]api.Option{d.Option()}, false},
	} {
		got, ok := open(t, bytesKey, seg.Of(s, x.l...))
		want := d
		want.Seal(binary.BigEndian.Uint64(good.Body[21:]))
		if ok != x.ok || ok && got != want {
			t.Errorf("%s: %v, %v", name, got, ok)
		}
	}
}

// Options of each kind and length, and each first byte, with right sums: just what can be read is opened.
func TestOpenReadable(t *testing.T) {
	s := with(firstHead, []byte("abc"))
	for kind := range 256 {
		for many := 8; many < 48; many++ {
			o := right(bytesKey, s, api.Option{Kind: byte(kind), Body: make([]byte, many)})
			if d, ok := open(t, bytesKey, seg.Of(s, o)); ok != (kind == 3 && many == 29) || ok && d != (opt.Data{Tagged: d.Tagged}) {
				t.Errorf("kind %d, %d bytes: %v, %v", kind, many, d, ok)
			}
		}
		o := right(bytesKey, s, api.Option{Kind: 3, Body: append([]byte{byte(kind)}, make([]byte, 28)...)})
		if d, ok := open(t, bytesKey, seg.Of(s, o)); ok != (kind < 4) || d.Fin != (kind == 1 || kind == 3) || d.Probe != (kind == 2 || kind == 3) {
			t.Errorf("first byte %d: %v, %v", kind, d, ok)
		}
	}
	for many := range 8 { // too short for a sum
		if _, ok := open(t, bytesKey, seg.Of(s, api.Option{Kind: 3, Body: rising(many)})); ok {
			t.Errorf("%d bytes are opened", many)
		}
	}
}

// Each list of up to three of these options: of word with right sums, what can be read, in order; more than once, too.
func TestWords(t *testing.T) {
	s := with(firstHead, []byte("abc"))
	type item struct {
		o  api.Option
		w  opt.Word
		is bool
	}
	var all []item
	for kind := api.KindAdd; kind <= api.KindClose; kind++ {
		w := opt.Word{Kind: byte(kind), Number: uint32(kind) << 20, ID: byte(kind), Path: 3, Backup: kind%2 == 0}
		o := mac.Word(bytesKey, s, w)
		w.Seal(binary.BigEndian.Uint64(o.Body[7:]))
		all = append(all, item{o, w, true}, item{o: tagged(o, w.Tag^1<<kind)})
	}
	for _, o := range []api.Option{
		mac.Data(bytesKey, s, opt.Data{Seq: 5}),
		mac.Word(shortKey, s, opt.Word{Kind: 4}),
		mac.Word(bytesKey, firstHead, opt.Word{Kind: 5}),
		mac.Word(bytesKey, s, opt.Word{Kind: 8}), mac.Word(bytesKey, s, opt.Word{Kind: 3}), mac.Word(bytesKey, s, opt.Word{}),
		right(bytesKey, s, api.Option{Kind: 6, Body: append([]byte{0, 0, 0, 0, 0, 0, 2}, make([]byte, 8)...)}),
		right(bytesKey, s, api.Option{Kind: 7, Body: make([]byte, 14)}),
		right(bytesKey, s, api.Option{Kind: 7, Body: make([]byte, 16)}),
		{Kind: 7}, {Kind: 4, Body: make([]byte, 7)},
	} {
		all = append(all, item{o: o})
	}
	check := func(at ...int) {
		x, want := s, []opt.Word(nil)
		for _, i := range at {
			x.Opts = append(x.Opts, all[i].o)
			if all[i].is {
				want = append(want, all[i].w)
			}
		}
		if got := mac.Words(bytesKey, x); !slices.Equal(got, want) {
			t.Fatalf("%v: %v, not %v", at, got, want)
		}
	}
	check()
	for a := range all {
		check(a)
		for b := range all {
			check(a, b)
			for c := range all {
				check(a, b, c)
			}
		}
	}
	if got := mac.Words(bytesKey, api.Segment{Opts: []api.Option{}}); len(got) != 0 {
		t.Error(got)
	}
}

// Each kind, length and Backup of word, with right sums.
func TestWordsReadable(t *testing.T) {
	s := with(firstHead, []byte("abc"))
	for kind := range 256 {
		isWord := kind >= 4 && kind <= 7
		for many := 8; many < 32; many++ {
			o := right(bytesKey, s, api.Option{Kind: byte(kind), Body: make([]byte, many)})
			if l := mac.Words(bytesKey, seg.Of(s, o)); (len(l) == 1) != (isWord && many == 15) {
				t.Errorf("kind %d, %d bytes: %v", kind, many, l)
			}
		}
		for backup := range 256 {
			o := right(bytesKey, s, api.Option{Kind: byte(kind), Body: append([]byte{0, 0, 0, 0, 0, 0, byte(backup)}, make([]byte, 8)...)})
			if l := mac.Words(bytesKey, seg.Of(s, o)); (len(l) == 1) != (isWord && backup < 2) || len(l) == 1 && l[0].Backup != (backup == 1) {
				t.Errorf("kind %d, Backup %d: %v", kind, backup, l)
			}
		}
	}
}

// As many words as a list has, also more than a segment may.
func TestWordsMany(t *testing.T) {
	s := firstHead
	var want []opt.Word
	for i := range 3000 {
		w := opt.Word{Kind: byte(4 + i%4), Number: uint32(i)}
		o := mac.Word(bytesKey, firstHead, w)
		w.Seal(binary.BigEndian.Uint64(o.Body[7:]))
		if i%3 == 0 {
			o = tagged(o, ^w.Tag)
		} else {
			want = append(want, w)
		}
		s.Opts = append(s.Opts, o)
	}
	if got := mac.Words(bytesKey, s); !slices.Equal(got, want) {
		t.Errorf("%d of %d", len(got), len(want))
	}
}

// P10.4

// What was sealed is opened, with whatever other options beside it, as packets carry it too.
func TestSealedIsOpened(t *testing.T) {
	r := rand.New(rand.NewSource(6))
	for range 5000 {
		k, s := drawnKey(r), drawnSegment(r)
		s.Flags &= 7
		d := drawnData(r)
		l := []api.Option{mac.Data(k, s, d)}
		d.Seal(binary.BigEndian.Uint64(l[0].Body[21:]))
		var words []opt.Word
		for range r.Intn(5) {
			w := drawnWord(r)
			o := mac.Word(k, s, w)
			w.Seal(binary.BigEndian.Uint64(o.Body[7:]))
			l, words = append(l, o), append(words, w)
		}
		place := r.Intn(len(l))
		l = append(append(slices.Clone(l[1:1+place]), l[0]), l[1+place:]...)
		l = slices.Insert(l, r.Intn(len(l)+1), api.Option{Kind: byte(8 + r.Intn(248)), Body: rising(r.Intn(16))})
		x := seg.Of(s, l...)
		b, e := seg.Encode(x)
		y, e2 := seg.Parse(b)
		if e != api.OK || e2 != api.OK {
			t.Fatal(e, e2)
		}
		for _, x := range []api.Segment{x, y} {
			if got, ok := open(t, k, x); !ok || got != d {
				t.Fatalf("%v: %v, %v, not %v", x, got, ok, d)
			}
			if got := mac.Words(k, x); !slices.Equal(got, words) {
				t.Fatalf("%v: %v, not %v", x, got, words)
			}
			if other := drawnKey(r); len(mac.Words(other, x)) != 0 {
				t.Fatalf("%v: words under another key", x)
			} else if _, ok := open(t, other, x); ok {
				t.Fatalf("%v: opened under another key", x)
			}
		}
	}
}

// Each bit of a packet is turned: what is covered isn't opened any more; what isn't doesn't matter.
func TestTurned(t *testing.T) {
	s := api.Segment{Src: 5, Dst: 80, Seq: 9, Ack: 7, Flags: api.Syn, Data: []byte("some data")}
	data, word := mac.Data(bytesKey, s, opt.Data{Seq: 5, Win: 6}), mac.Word(bytesKey, s, opt.Word{Kind: api.KindAdd, Number: 8})
	b, e := seg.Encode(seg.Of(s, data, word))
	if e != api.OK {
		t.Fatal(e)
	}
	const dataBody, wordBody = seg.Head + 2 + 29, seg.Head + 2 + 29 + 2 + 15
	for bit := range 8 * len(b) {
		x := bytes.Clone(b)
		x[bit/8] ^= 1 << (bit % 8)
		y, e := seg.Parse(x)
		if e != api.OK {
			continue
		}
		inData := bit/8 >= seg.Head && bit/8 < dataBody
		inWord := bit/8 >= dataBody && bit/8 < wordBody
		if _, ok := open(t, bytesKey, y); ok != inWord {
			t.Errorf("bit %d is turned: opened: %v", bit, ok)
		}
		if l := mac.Words(bytesKey, y); (len(l) == 1) != inData {
			t.Errorf("bit %d is turned: words: %v", bit, l)
		}
	}
}

// With another header, kind or body, or other data, it covers other bytes, and has another sum; likewise with one byte more or less of data.
func TestOtherBytes(t *testing.T) {
	r := rand.New(rand.NewSource(7))
	for range 200 {
		s, o := drawnSegment(r), drawnData(r).Option()
		s.Data = append(s.Data, 1)
		old, tag := mac.Cover(s, o), mac.Tag(bytesKey, s, o)
		other := func(name string, s api.Segment, o api.Option) {
			if bytes.Equal(mac.Cover(s, o), old) || mac.Right(bytesKey, s, o, tag) {
				t.Fatalf("%v, %v: another %s doesn't matter", s, o, name)
			}
		}
		for bit := range 32 {
			x := s
			x.Seq ^= 1 << bit
			other("Seq", x, o)
			x = s
			x.Ack ^= 1 << bit
			other("Ack", x, o)
			x = s
			x.Src ^= 1 << (bit % 16)
			other("Src", x, o)
			x = s
			x.Dst ^= 1 << (bit % 16)
			other("Dst", x, o)
			x = s
			x.Flags ^= 1 << (bit % 8)
			other("Flags", x, o)
			other("Kind", s, api.Option{Kind: o.Kind ^ 1<<(bit%8), Body: o.Body})
		}
		for at := range 21 {
			y := api.Option{Kind: o.Kind, Body: bytes.Clone(o.Body)}
			y.Body[at]++
			other("body", s, y)
		}
		for at := range s.Data {
			x := with(s, bytes.Clone(s.Data))
			x.Data[at]++
			other("data", x, o)
		}
		other("data", with(s, append(bytes.Clone(s.Data), 0)), o)
		other("data", with(s, s.Data[:len(s.Data)-1]), o)
		other("body", s, api.Option{Kind: o.Kind, Body: append(bytes.Clone(o.Body), 0)})
		other("body", s, api.Option{Kind: o.Kind, Body: o.Body[:len(o.Body)-1]})
	}
}

// Bytes can't go from a body to data, or from one end to another: no two lengths cover the same bytes, though all of them are 0.
func TestLengths(t *testing.T) {
	came := map[string]string{}
	for body := range 300 {
		for data := range 40 {
			if body >= 256 && data > 8 {
				continue
			}
			name := fmt.Sprintf("%d and %d", body, data)
			c := string(mac.Cover(with(zeroHead, make([]byte, data)), api.Option{Body: make([]byte, body)}))
			if old, is := came[c]; is {
				t.Errorf("%s cover the same as %s", name, old)
			}
			came[c] = name
		}
	}
}

// P1, P2

// oddSegments, oddOptions: also such as may not be.
func oddSegments() []api.Segment {
	l := []api.Segment{{}, fullHead, firstHead, with(fullHead, rising(1<<17)), with(zeroHead, []byte{})}
	for _, s := range slices.Clone(l) {
		s.Opts = []api.Option{}
		l = append(l, s)
		s.Opts = oddOptions()
		l = append(l, s)
	}
	return l
}

func oddOptions() []api.Option {
	l := []api.Option{{}, {Kind: 255}, {Kind: 3, Body: []byte{}}, {Kind: 9, Body: rising(1 << 16)}}
	for kind := range 9 {
		for _, many := range []int{1, 7, 8, 9, 15, 16, 18, 29, 255, 256, 263, 264, 265} {
			l = append(l, api.Option{Kind: byte(kind), Body: rising(many)})
		}
	}
	return l
}

// Each call takes any argument, ends, turns nothing, and answers the same again, whatever was called between.
func TestAny(t *testing.T) {
	sums, options := oddSegments(), oddOptions()
	answers := func() string {
		all := ""
		for _, k := range []api.Pair{{}, bytesKey, fullKey} {
			for _, s := range sums {
				d, ok := mac.Open(k, s)
				all += fmt.Sprint(d, ok, mac.Words(k, s))
				all += fmt.Sprint(mac.Key(k, s, opt.Key{Key: 5}), mac.Join(k, s, opt.Join{ID: 255}), mac.Data(k, s, opt.Data{Win: 7}), mac.Word(k, s, opt.Word{Kind: 77}))
				if len(s.Data) > 0 && k != bytesKey {
					continue // as many data again and again take long
				}
				for _, o := range options {
					tag := mac.Tag(k, s, o)
					all += fmt.Sprint(len(mac.Cover(s, o)), tag, mac.Right(k, s, o, tag), mac.Right(k, s, o, ^tag), ";")
				}
			}
		}
		return all
	}
	old := fmt.Sprint(sums, options)
	first := answers()
	if answers() != first {
		t.Error("another answer to the same call")
	}
	if fmt.Sprint(sums, options) != old {
		t.Error("an argument is turned")
	}
}

// What is answered shares no memory with an argument, or with another answer, and what lies behind a list's length is neither read nor handed out.
func TestShares(t *testing.T) {
	room := append(rising(40), bytes.Repeat([]byte{0xee}, 40)...)
	s := with(firstHead, room[30:34])
	o := api.Option{Kind: 3, Body: room[:29]}
	want := covered(with(firstHead, bytes.Clone(s.Data)), api.Option{Kind: 3, Body: bytes.Clone(o.Body)})
	old := bytes.Clone(room)
	for _, c := range [][]byte{mac.Cover(s, o), mac.Cover(s, o)} {
		if !bytes.Equal(c, want) {
			t.Errorf("%x, not %x", c, want)
		}
		for _, x := range c[len(c):cap(c)] {
			if x != 0 {
				t.Error("Cover hands out what lies behind it")
			}
		}
		_ = append(c, 1, 2, 3)
		clear(c)
	}
	if !bytes.Equal(room, old) {
		t.Error("Cover shares an argument's memory, or turns it")
	}

	l := []api.Option{mac.Word(bytesKey, s, opt.Word{Kind: 4, Number: 1}), mac.Data(bytesKey, s, opt.Data{Seq: 1}), mac.Data(bytesKey, s, opt.Data{Seq: 2}), mac.Word(bytesKey, s, opt.Word{Kind: 4, Number: 2})}
	s.Opts = l[:2]
	one, two := mac.Words(bytesKey, s), mac.Words(bytesKey, s)
	if d, ok := mac.Open(bytesKey, s); !ok || d.Seq != 1 || len(one) != 1 {
		t.Error("what lies behind the options is read", d, ok, one)
	}
	one[0].Number = 9
	if two[0].Number != 1 || mac.Words(bytesKey, s)[0].Number != 1 {
		t.Error("Words shares its memory")
	}
	first := mac.Data(bytesKey, s, opt.Data{Seq: 1})
	_ = append(first.Body, 1, 2, 3)
	clear(first.Body)
	if !same(mac.Data(bytesKey, s, opt.Data{Seq: 1}), l[1]) {
		t.Error("Data shares its memory")
	}
	if !bytes.Equal(room, old) {
		t.Error("an argument is turned")
	}
}

// The chapter's example.
func TestExample(t *testing.T) {
	d := opt.Data{Fin: true, Seq: 5, Ack: 6, Win: 7}
	s := with(firstHead, []byte("x"))
	o := mac.Data(shortKey, s, d)
	got, ok := mac.Open(shortKey, seg.Of(s, o))
	d.Seal(mac.Tag(shortKey, s, o))
	if !ok || got != d {
		t.Error(got, ok)
	}
}
