package opt_test

import (
	"bytes"
	"encoding/binary"
	"encoding/hex"
	"fmt"
	"math"
	"math/rand"
	"slices"
	"strings"
	"testing"

	"brougham/api"
	"brougham/opt"
)

// writes is what layer 8 writes as an option.
type writes interface{ Option() api.Option }

// seals is what has a sum.
type seals interface{ Seal(tag uint64) }

func sealed(tag uint64) opt.Tagged { return opt.Tagged{Tag: tag} }

// same: do two options say the same? A nil body is an empty one.
func same(a, b api.Option) bool { return a.Kind == b.Kind && bytes.Equal(a.Body, b.Body) }

func bit(is bool) byte {
	if is {
		return 1
	}
	return 0
}

// plain: an option, written another way.
func plain(x writes) api.Option {
	big := binary.BigEndian
	switch x := x.(type) {
	case opt.Key:
		b := big.AppendUint64(nil, x.Key)
		if x.Answer {
			b = big.AppendUint64(b, x.Tag)
		}
		return api.Option{Kind: 1, Body: b}
	case opt.Join:
		b := big.AppendUint32(big.AppendUint32(nil, x.Token), x.Nonce)
		b = append(b, x.ID, bit(x.Backup))
		if x.Answer {
			b = big.AppendUint64(b, x.Tag)
		}
		return api.Option{Kind: 2, Body: b}
	case opt.Data:
		b := big.AppendUint64([]byte{bit(x.Fin) + 2*bit(x.Probe)}, x.Seq)
		b = big.AppendUint32(big.AppendUint64(b, x.Ack), x.Win)
		return api.Option{Kind: 3, Body: big.AppendUint64(b, x.Tag)}
	case opt.Word:
		b := append(big.AppendUint32(nil, x.Number), x.ID, x.Path, bit(x.Backup))
		return api.Option{Kind: x.Kind, Body: big.AppendUint64(b, x.Tag)}
	}
	panic("no such option")
}

// read: what of all that may be read an option is, by the one function that reads it; nil: none of them does.
func read(t *testing.T, o api.Option) writes {
	t.Helper()
	var l []writes
	if x, ok := opt.ParseKey(o); ok {
		l = append(l, x)
	} else if x != (opt.Key{}) {
		t.Errorf("ParseKey(%v): %v beside false", o, x)
	}
	if x, ok := opt.ParseJoin(o); ok {
		l = append(l, x)
	} else if x != (opt.Join{}) {
		t.Errorf("ParseJoin(%v): %v beside false", o, x)
	}
	if x, ok := opt.ParseData(o); ok {
		l = append(l, x)
	} else if x != (opt.Data{}) {
		t.Errorf("ParseData(%v): %v beside false", o, x)
	}
	if x, ok := opt.ParseWord(o); ok {
		l = append(l, x)
	} else if x != (opt.Word{}) {
		t.Errorf("ParseWord(%v): %v beside false", o, x)
	}
	if len(l) > 1 {
		t.Fatalf("%v: read as %v", o, l)
	}
	if len(l) == 0 {
		return nil
	}
	return l[0]
}

// look: what an option is, looked at another way; nil: it is none.
func look(o api.Option) writes {
	b, big := o.Body, binary.BigEndian
	switch {
	case o.Kind == 1 && len(b) == 8:
		return opt.Key{Key: big.Uint64(b)}
	case o.Kind == 1 && len(b) == 16:
		return opt.Key{Key: big.Uint64(b), Answer: true, Tagged: sealed(big.Uint64(b[8:]))}
	case o.Kind == 2 && len(b) == 10 && b[9] < 2:
		return opt.Join{Token: big.Uint32(b), Nonce: big.Uint32(b[4:]), ID: b[8], Backup: b[9] == 1}
	case o.Kind == 2 && len(b) == 18 && b[9] < 2:
		return opt.Join{Token: big.Uint32(b), Nonce: big.Uint32(b[4:]), ID: b[8], Backup: b[9] == 1, Answer: true, Tagged: sealed(big.Uint64(b[10:]))}
	case o.Kind == 3 && len(b) == 29 && b[0] < 4:
		return opt.Data{Fin: b[0]%2 == 1, Probe: b[0]/2 == 1, Seq: big.Uint64(b[1:]), Ack: big.Uint64(b[9:]), Win: big.Uint32(b[17:]), Tagged: sealed(big.Uint64(b[21:]))}
	case o.Kind >= 4 && o.Kind <= 7 && len(b) == 15 && b[6] < 2:
		return opt.Word{Kind: o.Kind, Number: big.Uint32(b), ID: b[4], Path: b[5], Backup: b[6] == 1, Tagged: sealed(big.Uint64(b[7:]))}
	}
	return nil
}

// drawn: an option of a word's kind or another one, of which all is drawn, or at its bounds.
func drawn(r *rand.Rand) writes {
	long := func() uint64 {
		return []uint64{0, 1, math.MaxUint64, 1 << 63, r.Uint64(), r.Uint64()}[r.Intn(6)]
	}
	short := func() uint32 { return uint32(long() >> (32 * r.Intn(2))) }
	few := func() byte { return byte(short()) }
	is := func() bool { return r.Intn(2) == 0 }
	switch r.Intn(4) {
	case 0:
		x := opt.Key{Key: long(), Answer: is()}
		if x.Answer {
			x.Seal(long())
		}
		return x
	case 1:
		x := opt.Join{Token: short(), Nonce: short(), ID: few(), Backup: is(), Answer: is()}
		if x.Answer {
			x.Seal(long())
		}
		return x
	case 2:
		return opt.Data{Fin: is(), Probe: is(), Seq: long(), Ack: long(), Win: short(), Tagged: sealed(long())}
	}
	return opt.Word{Kind: byte(4 + r.Intn(4)), Number: short(), ID: few(), Path: few(), Backup: is(), Tagged: sealed(long())}
}

// P8.1

func TestOption(t *testing.T) {
	const last, all = math.MaxUint32, math.MaxUint64
	for _, x := range []struct {
		x    writes
		kind byte
		body string
	}{
		{opt.Key{}, 1, "0000000000000000"},
		{opt.Key{Key: 1}, 1, "0000000000000001"},
		{opt.Key{Key: 0x0102030405060708, Tagged: sealed(9)}, 1, "0102030405060708"},
		{opt.Key{Key: 0x0102030405060708, Answer: true}, 1, "0102030405060708" + "0000000000000000"},
		{opt.Key{Key: all, Answer: true, Tagged: sealed(0x1112131415161718)}, 1, "ffffffffffffffff" + "1112131415161718"},
		{opt.Join{}, 2, "00000000" + "00000000" + "00" + "00"},
		{opt.Join{Token: 0x01020304, Nonce: 0x05060708, ID: 9, Backup: true, Tagged: sealed(all)}, 2, "01020304" + "05060708" + "09" + "01"},
		{opt.Join{Token: last, Nonce: 1, ID: 255, Answer: true}, 2, "ffffffff" + "00000001" + "ff" + "00" + "0000000000000000"},
		{opt.Join{Token: 1, Nonce: last, Backup: true, Answer: true, Tagged: sealed(0x1112131415161718)}, 2, "00000001" + "ffffffff" + "00" + "01" + "1112131415161718"},
		{opt.Data{}, 3, "00" + "0000000000000000" + "0000000000000000" + "00000000" + "0000000000000000"},
		{opt.Data{Fin: true, Seq: 5, Ack: 6, Win: 7, Tagged: sealed(8)}, 3, "01" + "0000000000000005" + "0000000000000006" + "00000007" + "0000000000000008"},
		{opt.Data{Probe: true, Seq: 0x0102030405060708, Ack: 0x1112131415161718, Win: 0x21222324, Tagged: sealed(0x3132333435363738)}, 3, "02" + "0102030405060708" + "1112131415161718" + "21222324" + "3132333435363738"},
		{opt.Data{Fin: true, Probe: true, Seq: all, Ack: all, Win: last, Tagged: sealed(all)}, 3, "03" + strings.Repeat("ff", 28)},
		{opt.Word{Kind: 4, Number: 0x01020304, ID: 5, Path: 6, Backup: true, Tagged: sealed(0x1112131415161718)}, 4, "01020304" + "05" + "06" + "01" + "1112131415161718"},
		{opt.Word{Kind: 5, Number: last, ID: 255, Path: 254, Tagged: sealed(all)}, 5, "ffffffff" + "ff" + "fe" + "00" + "ffffffffffffffff"},
		{opt.Word{Kind: 6, Backup: true}, 6, "00000000" + "00" + "00" + "01" + "0000000000000000"},
		{opt.Word{Kind: 7}, 7, strings.Repeat("00", 15)},
		{opt.Word{}, 0, strings.Repeat("00", 15)},
	} {
		o := x.x.Option()
		if got := hex.EncodeToString(o.Body); o.Kind != x.kind || got != x.body {
			t.Errorf("%+v: kind %d, %s, not %d, %s", x.x, o.Kind, got, x.kind, x.body)
		}
	}
}

// Of a word the kind is whichever it has.
func TestWordKinds(t *testing.T) {
	for kind := range 256 {
		w := opt.Word{Kind: byte(kind), Number: 1, ID: 2, Path: 3, Backup: true, Tagged: sealed(4)}
		if o := w.Option(); !same(o, plain(w)) || o.Kind != byte(kind) || len(o.Body) != 15 {
			t.Errorf("kind %d: %v", kind, o)
		}
	}
}

func TestOptionDrawn(t *testing.T) {
	r := rand.New(rand.NewSource(1))
	for range 20000 {
		x := drawn(r)
		if o := x.Option(); !same(o, plain(x)) {
			t.Fatalf("%+v: %v", x, o)
		}
	}
}

// A sum that isn't in an answer isn't written, whichever it is; in an answer it is, 0 too.
func TestTagOfNoAnswer(t *testing.T) {
	for _, tag := range []uint64{0, 1, 1 << 63, math.MaxUint64} {
		k, j := opt.Key{Key: 5}, opt.Join{Token: 5, Nonce: 6, ID: 7, Backup: true}
		k.Seal(tag)
		j.Seal(tag)
		if o := k.Option(); !same(o, opt.Key{Key: 5}.Option()) || len(o.Body) != 8 {
			t.Errorf("a key with %d: %v", tag, o)
		}
		if o := j.Option(); !same(o, opt.Join{Token: 5, Nonce: 6, ID: 7, Backup: true}.Option()) || len(o.Body) != 10 {
			t.Errorf("a join with %d: %v", tag, o)
		}
		k.Answer, j.Answer = true, true
		if o := k.Option(); len(o.Body) != 16 || binary.BigEndian.Uint64(o.Body[8:]) != tag {
			t.Errorf("a key's answer with %d: %v", tag, o)
		}
		if o := j.Option(); len(o.Body) != 18 || binary.BigEndian.Uint64(o.Body[10:]) != tag {
			t.Errorf("a join's answer with %d: %v", tag, o)
		}
	}
}

// Seal turns the sum, whatever it was, and nothing else; it is promoted to each of them.
func TestSeal(t *testing.T) {
	for _, tag := range []uint64{0, 1, 5, 1 << 63, math.MaxUint64} {
		x := opt.Tagged{Tag: 5}
		k := opt.Key{Key: 1, Tagged: x}
		j := opt.Join{Token: 1, Nonce: 2, ID: 3, Backup: true, Tagged: x}
		d := opt.Data{Probe: true, Seq: 1, Ack: 2, Win: 3, Tagged: x}
		w := opt.Word{Kind: 9, Number: 1, ID: 2, Path: 3, Backup: true, Tagged: x}
		for _, y := range []seals{&x, &k, &j, &d, &w} {
			y.Seal(tag)
		}
		if x.Tag != tag {
			t.Errorf("Seal(%d): %v", tag, x)
		}
		if k != (opt.Key{Key: 1, Tagged: x}) || j != (opt.Join{Token: 1, Nonce: 2, ID: 3, Backup: true, Tagged: x}) || d != (opt.Data{Probe: true, Seq: 1, Ack: 2, Win: 3, Tagged: x}) || w != (opt.Word{Kind: 9, Number: 1, ID: 2, Path: 3, Backup: true, Tagged: x}) {
			t.Errorf("Seal(%d): %v, %v, %v, %v", tag, k, j, d, w)
		}
	}
}

// P8.2

// Each kind with each length of a body: one that is as it should be of all that may be, or none.
func TestParse(t *testing.T) {
	fills := map[string]func(i int) byte{
		"of 0": func(int) byte { return 0 }, "of 1": func(int) byte { return 1 }, "of 255": func(int) byte { return 255 },
		"but for 2": func(i int) byte { return byte(2 * bit(i == 0)) }, "that rises": func(i int) byte { return byte(i) },
		"but for the tenth": func(i int) byte { return 7 * bit(i != 9) }, "but for the seventh": func(i int) byte { return 7 * bit(i != 6) },
	}
	were := map[string]bool{}
	for name, fill := range fills {
		for kind := range 256 {
			for many := range 300 {
				b := make([]byte, many)
				for i := range b {
					b[i] = fill(i)
				}
				o := api.Option{Kind: byte(kind), Body: b}
				got, want := read(t, o), look(o)
				if got != want {
					t.Fatalf("kind %d, %d bytes %s: %+v, not %+v", kind, many, name, got, want)
				}
				if got != nil {
					were[fmt.Sprintf("%d %d", kind, many)] = true
				}
			}
		}
	}
	for _, x := range []string{"1 8", "1 16", "2 10", "2 18", "3 29", "4 15", "5 15", "6 15", "7 15"} {
		if !were[x] {
			t.Errorf("kind and length %s: never read", x)
		}
		delete(were, x)
	}
	if len(were) > 0 {
		t.Errorf("read, though of no kind and length as they should be: %v", were)
	}
}

// Each value of each byte, of an option of each shape.
func TestParseBytes(t *testing.T) {
	for kind, sizes := range map[byte][]int{1: {8, 16}, 2: {10, 18}, 3: {29}, 4: {15}, 5: {15}, 6: {15}, 7: {15}} {
		for _, many := range sizes {
			for at := range many {
				for value := range 256 {
					o := api.Option{Kind: kind, Body: make([]byte, many)}
					o.Body[at] = byte(value)
					got, want := read(t, o), look(o)
					if got != want {
						t.Fatalf("kind %d, %d bytes, of which %d is %d: %+v, not %+v", kind, many, at, value, got, want)
					}
				}
			}
		}
	}
}

// Where a byte may be 0 and 1 alone, or one of four: each other one makes none of it, with an answer's sum and without.
func TestParseMarks(t *testing.T) {
	for value := range 256 {
		v := byte(value)
		for _, behind := range []int{0, 8} {
			o := api.Option{Kind: api.KindJoin, Body: append(append(make([]byte, 9), v), make([]byte, behind)...)}
			if x, ok := opt.ParseJoin(o); ok != (v < 2) || x.Backup != (v == 1) || x.Answer != (ok && behind == 8) {
				t.Errorf("a join's Backup %d: %v, %v", v, x, ok)
			}
		}
		if x, ok := opt.ParseData(api.Option{Kind: api.KindData, Body: append([]byte{v}, make([]byte, 28)...)}); ok != (v < 4) || x.Fin != (v == 1 || v == 3) || x.Probe != (v == 2 || v == 3) {
			t.Errorf("data's first byte %d: %v, %v", v, x, ok)
		}
		for kind := range 256 {
			o := api.Option{Kind: byte(kind), Body: append(append(make([]byte, 6), v), make([]byte, 8)...)}
			if x, ok := opt.ParseWord(o); ok != (v < 2 && kind >= 4 && kind <= 7) || x.Backup != (ok && v == 1) || x.Kind != byte(kind)*bit(ok) {
				t.Errorf("a word's Backup %d of kind %d: %v, %v", v, kind, x, ok)
			}
		}
	}
}

func TestExamples(t *testing.T) {
	o := opt.Key{Key: 1}.Option()
	if !same(o, api.Option{Kind: 1, Body: []byte{0, 0, 0, 0, 0, 0, 0, 1}}) {
		t.Error(o)
	}
	if k, ok := opt.ParseKey(o); !ok || k != (opt.Key{Key: 1}) {
		t.Error(k, ok)
	}
	o.Body = append(o.Body, 1, 2, 3, 4, 5, 6, 7, 8)
	if k, ok := opt.ParseKey(o); !ok || k != (opt.Key{Key: 1, Answer: true, Tagged: sealed(0x0102030405060708)}) {
		t.Error(k, ok)
	}
}

// P8.3

func TestOne(t *testing.T) {
	a, b, c := api.Option{Kind: 3, Body: []byte("a")}, api.Option{Kind: 4, Body: []byte("b")}, api.Option{Kind: 255}
	none, long := api.Option{Kind: 0, Body: []byte("n")}, api.Option{Kind: 9, Body: make([]byte, 70000)}
	for i, x := range []struct {
		l    []api.Option
		kind byte
		want api.Option
		ok   bool
	}{
		{nil, 3, api.Option{}, false}, {nil, 0, api.Option{}, false}, {[]api.Option{}, 3, api.Option{}, false},
		{[]api.Option{a}, 3, a, true}, {[]api.Option{a}, 4, api.Option{}, false}, {[]api.Option{a}, 0, api.Option{}, false},
		{[]api.Option{a, b, c}, 3, a, true}, {[]api.Option{a, b, c}, 4, b, true}, {[]api.Option{a, b, c}, 255, c, true}, {[]api.Option{a, b, c}, 5, api.Option{}, false},
		{[]api.Option{a, a}, 3, api.Option{}, false}, {[]api.Option{a, b, a}, 3, api.Option{}, false}, {[]api.Option{a, b, a}, 4, b, true}, {[]api.Option{b, a, a, a}, 3, api.Option{}, false}, {[]api.Option{c, c}, 255, api.Option{}, false},
		{[]api.Option{{Kind: 3, Body: []byte("x")}, a}, 3, api.Option{}, false}, {[]api.Option{none, a}, 0, none, true}, {[]api.Option{none, none}, 0, api.Option{}, false}, {[]api.Option{none, a}, 3, a, true},
		{[]api.Option{long, a}, 9, long, true}, {slices.Repeat([]api.Option{a}, 257), 3, api.Option{}, false}, {slices.Repeat([]api.Option{a}, 1<<16+1), 3, api.Option{}, false},
	} {
		s := api.Segment{Src: 5, Flags: 9, Opts: x.l, Data: []byte("data")}
		if o, ok := opt.One(s, x.kind); ok != x.ok || !same(o, x.want) {
			t.Errorf("%d: %v, %v, not %v, %v", i, o, ok, x.want, x.ok)
		}
	}
}

// Each list of few options of few kinds: as many of a kind as are counted.
func TestOneEach(t *testing.T) {
	for n := range 3 * 3 * 3 * 3 {
		var l []api.Option
		for x := n; len(l) < 4; x /= 3 {
			l = append(l, api.Option{Kind: byte(3 + x%3), Body: []byte{byte(len(l))}})
		}
		for kind := range byte(8) {
			many, want := 0, api.Option{}
			for _, o := range l {
				if o.Kind == kind {
					many, want = many+1, o
				}
			}
			if many != 1 {
				want = api.Option{}
			}
			if o, ok := opt.One(api.Segment{Opts: l}, kind); ok != (many == 1) || !same(o, want) {
				t.Fatalf("%v, kind %d: %v, %v", l, kind, o, ok)
			}
		}
	}
}

// P8.4

func TestWrittenIsRead(t *testing.T) {
	r := rand.New(rand.NewSource(2))
	for range 20000 {
		x := drawn(r)
		if got := read(t, x.Option()); got != x {
			t.Fatalf("%+v: %+v", x, got)
		}
	}
	for _, tag := range []uint64{1, math.MaxUint64} { // what is no answer is read with the sum 0
		if got := read(t, opt.Key{Key: 5, Tagged: sealed(tag)}.Option()); got != (opt.Key{Key: 5}) {
			t.Errorf("%+v", got)
		}
		if got := read(t, opt.Join{Token: 5, ID: 6, Tagged: sealed(tag)}.Option()); got != (opt.Join{Token: 5, ID: 6}) {
			t.Errorf("%+v", got)
		}
	}
	for kind := range 256 { // of a word of another kind nothing is read
		w := opt.Word{Kind: byte(kind), Number: 7}
		if got, ok := opt.ParseWord(w.Option()); ok != (kind >= 4 && kind <= 7) || ok && got != w {
			t.Errorf("kind %d: %v, %v", kind, got, ok)
		}
	}
}

func TestReadIsWritten(t *testing.T) {
	r := rand.New(rand.NewSource(3))
	reads := 0
	for range 100000 {
		o := api.Option{Kind: byte(r.Intn(9)), Body: make([]byte, []int{0, 7, 8, 9, 10, 11, 14, 15, 16, 17, 18, 19, 28, 29, 30}[r.Intn(15)])}
		r.Read(o.Body)
		for _, at := range []int{0, 6, 9} {
			if at < len(o.Body) && r.Intn(8) > 0 {
				o.Body[at] = byte(r.Intn(5))
			}
		}
		x := read(t, o)
		if x != look(o) {
			t.Fatalf("%v: %+v", o, x)
		}
		if x == nil {
			continue
		}
		reads++
		if back := x.Option(); !same(back, o) {
			t.Fatalf("%v: %+v: %v", o, x, back)
		}
	}
	if reads < 1000 {
		t.Errorf("%d of them read", reads)
	}
}

// P1, P2

// Each call takes any argument, ends, turns nothing, and answers the same again, whatever was called between.
func TestAny(t *testing.T) {
	answers := func() string {
		var out strings.Builder
		for _, many := range []int{0, 1, 7, 8, 9, 10, 15, 16, 18, 29, 255, 256, 264, 65536, 65536 + 8, 1 << 20} {
			for kind := range 256 {
				if many > 300 && kind > 8 {
					continue
				}
				for _, x := range []byte{0, 1, 255} {
					b := bytes.Repeat([]byte{x}, many)
					o := api.Option{Kind: byte(kind), Body: b}
					one, ok := opt.One(api.Segment{Opts: []api.Option{o}}, byte(kind))
					fmt.Fprintln(&out, read(t, o), one.Kind, len(one.Body), ok)
					if !same(o, api.Option{Kind: byte(kind), Body: bytes.Repeat([]byte{x}, many)}) || !same(one, o) {
						t.Fatal("an argument is turned")
					}
				}
			}
		}
		return out.String()
	}
	if answers() != answers() {
		t.Error("another answer to the same call")
	}
	if x := read(t, api.Option{}); x != nil {
		t.Error(x)
	}
}

// What is written is the same each time, turns nothing, and shares no memory.
func TestAnswered(t *testing.T) {
	r := rand.New(rand.NewSource(4))
	for range 2000 {
		x := drawn(r)
		one, two := x.Option(), x.Option()
		_ = append(one.Body, 1, 2, 3)
		for i := range one.Body {
			one.Body[i] ^= 0x55
		}
		if !same(two, plain(x)) || !same(x.Option(), two) {
			t.Fatalf("%+v: answers share their memory", x)
		}
		got := read(t, two)
		clear(two.Body)
		if got != x {
			t.Fatalf("%+v: what was read is turned", x)
		}
	}
}

// One hands out new memory, and neither looks nor hands out what lies behind a list.
func TestOneShares(t *testing.T) {
	room := []byte("abcdef")
	l := []api.Option{{Kind: 3, Body: room[:2]}, {Kind: 3, Body: room[2:4]}, {Kind: 4}}
	s := api.Segment{Opts: l[:1]}
	one, ok := opt.One(s, 3)
	two, _ := opt.One(s, 3)
	if !ok || string(one.Body) != "ab" {
		t.Fatal(one, ok)
	}
	if _, ok := opt.One(s, 4); ok {
		t.Error("One looks behind the list")
	}
	for _, x := range one.Body[len(one.Body):cap(one.Body)] {
		if x != 0 {
			t.Error("One hands out what lies behind a body")
		}
	}
	_ = append(one.Body, "xyz"...)
	one.Body[0] = 'x'
	if string(room) != "abcdef" || string(two.Body) != "ab" {
		t.Error("One shares its memory", string(room), two)
	}
	room[1] = 'y'
	if string(two.Body) != "ab" || string(one.Body) != "xb" {
		t.Error("One shares its memory", one, two)
	}
}

// Of bytes with a capacity beyond them nothing that lies there is read.
func TestBehind(t *testing.T) {
	for kind, sizes := range map[byte][]int{1: {8, 16}, 2: {10, 18}, 3: {29}, 4: {15}} {
		room := bytes.Repeat([]byte{1}, 64)
		for many := range 40 {
			if x := read(t, api.Option{Kind: kind, Body: room[:many]}); (x != nil) != slices.Contains(sizes, many) {
				t.Errorf("kind %d, %d bytes: %v", kind, many, x)
			}
		}
	}
}
