package inlet_test

import (
	"bytes"
	"fmt"
	"math"
	"math/rand"
	"testing"

	"brougham/api"
	"brougham/inlet"
	"brougham/ring"
)

const (
	half = 1 << 63
	top  = math.MaxUint64
)

// oddSizes: sizes at the bounds; which of them may be.
var oddSizes = map[int]bool{
	math.MinInt: false, math.MinInt + 1: false, -1 << 32: false, -65536: false, -2: false, -1: false, 0: false,
	1: true, 2: true, 3: true, 4: true, 1024: true, 4096: true, 65534: true, 65535: true, 65536: true,
	65537: false, 65538: false, 1 << 31: false, 1 << 32: false, 1<<32 + 1: false, math.MaxInt - 1: false, math.MaxInt: false,
}

// oddPieces: how many pieces one may ask for; how many there may be then.
var oddPieces = map[int]int{
	math.MinInt: 1, -1 << 32: 1, -65: 1, -1: 1, 0: 1, 1: 1, 2: 2, 3: 3, 4: 4, 32: 32, 63: 63, 64: 64,
	65: 64, 66: 64, 128: 64, 1 << 32: 64, 1<<32 + 1: 64, math.MaxInt: 64,
}

// oddNumbers: numbers of a stream, whatever came of it.
var oddNumbers = []uint64{0, 1, 2, 1 << 31, 1<<32 - 1, 1 << 32, 1<<32 + 1, 1 << 62, 1<<62 + 1, half - 1, half, half + 1, top - 65536, top - 5, top - 4, top - 3, top - 2, top - 1, top}

// oddInts: how many bytes one may ask for.
var oddInts = []int{math.MinInt, math.MinInt + 1, -1 << 32, -2, -1, 0, 1, 2, 3, 4, 5, 9, 65535, 65536, 65537, 1 << 31, 1 << 32, 1<<32 + 1, math.MaxInt - 1, math.MaxInt}

// slow is a stream that one reads, by the words of the chapter: all that ever came is kept, each byte with its number.
type slow struct {
	size, most int
	base       uint64
	came       map[uint64]byte
	end        uint64
	known      bool
}

func newSlow(size, pieces int) *slow {
	return &slow{size: size, most: min(max(pieces, 1), 64), came: map[uint64]byte{}}
}

func (s *slow) has(n uint64) bool {
	_, ok := s.came[n]
	return ok
}

func (s *slow) next() uint64 {
	n := s.base
	for s.has(n) {
		n++
	}
	return n
}

func (s *slow) edge() uint64 { return s.base + uint64(s.size) }

func (s *slow) pieces() int {
	many := 0
	for n := s.next() + 1; n < s.edge(); n++ {
		if s.has(n) && !s.has(n-1) {
			many++
		}
	}
	return many
}

func (s *slow) put(from uint64, b []byte) bool {
	if uint64(len(b)) > top-from {
		return false
	}
	next, all := s.next(), true
	var left []uint64
	for i := range b {
		n := from + uint64(i)
		if n >= s.edge() || s.known && n >= s.end {
			all = false
		} else if n >= next {
			left = append(left, n)
		}
	}
	if len(left) == 0 {
		return all
	}
	if left[0] > next && s.pieces() == s.most && !s.touches(left) {
		return false
	}
	for _, n := range left {
		if !s.has(n) {
			s.came[n] = b[n-from]
		}
	}
	return all
}

// touches: is one of these numbers there, or the one ahead of them, or the one behind them?
func (s *slow) touches(l []uint64) bool {
	for _, n := range l {
		if s.has(n) {
			return true
		}
	}
	return s.has(l[0]-1) || s.has(l[len(l)-1]+1)
}

func (s *slow) fin(end uint64) bool {
	if s.known {
		return end == s.end
	}
	if end < s.next() {
		return false
	}
	for n := range s.came {
		if n >= end {
			return false
		}
	}
	s.known, s.end = true, end
	return true
}

func (s *slow) ended() bool { return s.known && s.next() == s.end }

func (s *slow) ack() uint64 {
	if s.ended() {
		return s.next() + 1
	}
	return s.next()
}

func (s *slow) take(many int) ([]byte, api.Errno) {
	if many < 1 {
		return nil, api.OK
	}
	var l []byte
	for len(l) < many && s.has(s.base) {
		l = append(l, s.came[s.base])
		s.base++
	}
	switch {
	case len(l) > 0:
		return l, api.OK
	case s.ended():
		return nil, api.ErrEOF
	}
	return nil, api.ErrBlock
}

// both is an inlet, the slow one to which the same was done, and what was done.
type both struct {
	in   *inlet.Inlet
	slow *slow
	told []string
}

func newBoth(t *testing.T, size, pieces int) *both {
	t.Helper()
	x, e := inlet.New(size, pieces)
	if e != api.OK || x == nil {
		t.Fatalf("New(%d, %d): %v", size, pieces, e)
	}
	b := &both{in: x, slow: newSlow(size, pieces), told: []string{fmt.Sprintf("New(%d, %d)", size, pieces)}}
	b.look(t)
	return b
}

// look: does an inlet say what it is to say, when it is looked at?
func (b *both) look(t *testing.T) {
	t.Helper()
	x, s := b.in, b.slow
	next := s.next()
	if x.Base() != s.base || x.Next() != next || x.Edge() != s.edge() || uint64(x.Win()) != s.edge()-next {
		t.Fatalf("%v: base %d, next %d, edge %d, win %d, not %d, %d, %d", b.told, x.Base(), x.Next(), x.Edge(), x.Win(), s.base, next, s.edge())
	}
	if x.Pieces() != s.pieces() || x.Ack() != s.ack() || x.Ended() != s.ended() {
		t.Fatalf("%v: pieces %d, ack %d, ended %v, not %d, %d, %v", b.told, x.Pieces(), x.Ack(), x.Ended(), s.pieces(), s.ack(), s.ended())
	}
	if there := int(next - s.base); x.Len() != there || x.Free() != s.size-there || x.Size() != s.size {
		t.Fatalf("%v: %d there, %d free, size %d, not %d of %d", b.told, x.Len(), x.Free(), x.Size(), there, s.size)
	}
	for i, c := range x.Peek(0, x.Len()) {
		if c != s.came[s.base+uint64(i)] {
			t.Fatalf("%v: the byte %d is %d, not %d", b.told, s.base+uint64(i), c, s.came[s.base+uint64(i)])
		}
	}
}

func (b *both) put(t *testing.T, from uint64, p []byte) {
	t.Helper()
	b.told = append(b.told, fmt.Sprintf("Put(%d, %v)", from, p))
	if got, want := b.in.Put(from, p), b.slow.put(from, p); got != want {
		t.Fatalf("%v: %v, not %v", b.told, got, want)
	}
	b.look(t)
}

func (b *both) fin(t *testing.T, end uint64) {
	t.Helper()
	b.told = append(b.told, fmt.Sprintf("Fin(%d)", end))
	if got, want := b.in.Fin(end), b.slow.fin(end); got != want {
		t.Fatalf("%v: %v, not %v", b.told, got, want)
	}
	b.look(t)
}

func (b *both) take(t *testing.T, many int) {
	t.Helper()
	b.told = append(b.told, fmt.Sprintf("Take(%d)", many))
	l, e := b.in.Take(many)
	if m, f := b.slow.take(many); !bytes.Equal(l, m) || e != f {
		t.Fatalf("%v: %v, %v, not %v, %v", b.told, l, e, m, f)
	}
	b.look(t)
}

// fill: each byte that didn't come yet comes, one by one, and all is read: it shows those that came ahead of their turn.
func (b *both) fill(t *testing.T) {
	t.Helper()
	for n := b.slow.base; n < b.slow.edge(); n++ {
		b.put(t, n, []byte{byte(200 + n)})
	}
	b.take(t, math.MaxInt)
	b.take(t, 1)
}

// rising: so many bytes, from one on.
func rising(from, many int) []byte {
	l := make([]byte, many)
	for i := range l {
		l[i] = byte(from + i)
	}
	return l
}

// part: bytes that come, from a number on.
type part struct {
	from uint64
	p    string
}

// with: an inlet of a size and so many pieces, to which these bytes came, all of which it took.
func with(t *testing.T, size, pieces int, parts ...part) *inlet.Inlet {
	t.Helper()
	x, e := inlet.New(size, pieces)
	if e != api.OK {
		t.Fatal(e)
	}
	for _, a := range parts {
		if !x.Put(a.from, []byte(a.p)) {
			t.Fatal(a)
		}
	}
	return x
}

// read: all that is in order.
func read(t *testing.T, x *inlet.Inlet) string {
	t.Helper()
	if x.Next() == x.Base() {
		return ""
	}
	b, e := x.Take(math.MaxInt)
	if e != api.OK {
		t.Error(e)
	}
	return string(b)
}

func TestExample(t *testing.T) {
	x, e := inlet.New(8, 4)
	if e != api.OK {
		t.Fatal(e)
	}
	if !x.Put(2, []byte("cd")) || x.Next() != 0 {
		t.Error(x.Next())
	}
	if !x.Put(0, []byte("ab")) || x.Next() != 4 {
		t.Error(x.Next())
	}
	if b, e := x.Take(9); string(b) != "abcd" || e != api.OK {
		t.Error(string(b), e)
	}
}

// P18.1

// Which sizes may be, with any number of pieces: of these there is none that may not be.
func TestNew(t *testing.T) {
	for size, may := range oddSizes {
		for pieces := range oddPieces {
			x, e := inlet.New(size, pieces)
			if !may {
				if x != nil || e != api.ErrRing {
					t.Errorf("New(%d, %d): %v, %v", size, pieces, x, e)
				}
				continue
			}
			if x == nil || e != api.OK {
				t.Fatalf("New(%d, %d): %v", size, pieces, e)
			}
			if x.Base() != 0 || x.Next() != 0 || x.Edge() != uint64(size) || x.Win() != uint32(size) || x.Pieces() != 0 || x.Ack() != 0 || x.Ended() {
				t.Errorf("New(%d, %d): %d, %d, %d, %d, %d", size, pieces, x.Base(), x.Next(), x.Edge(), x.Win(), x.Pieces())
			}
		}
	}
}

// As many pieces as may be, and one more; what is in order is no piece.
func TestMostPieces(t *testing.T) {
	for pieces, most := range oddPieces {
		for _, ahead := range []int{0, 3} {
			x := with(t, 300, pieces, part{0, "abc"[:ahead]})
			for i := range most {
				if !x.Put(uint64(ahead+1+2*i), []byte("x")) || x.Pieces() != i+1 {
					t.Errorf("New(300, %d): %d pieces, not %d", pieces, x.Pieces(), i+1)
				}
			}
			if x.Put(uint64(ahead+1+2*most), []byte("x")) || x.Put(299, []byte("x")) || x.Pieces() != most || x.Next() != uint64(ahead) {
				t.Errorf("New(300, %d): %d pieces, more than may be", pieces, x.Pieces())
			}
		}
	}
}

// What each call says while a stream comes and is read.
func TestNumbers(t *testing.T) {
	x := with(t, 10, 3)
	for _, y := range []struct {
		do               func()
		base, next, edge uint64
		win              uint32
		pieces           int
	}{
		{func() {}, 0, 0, 10, 10, 0},
		{func() { x.Put(4, []byte("ef")) }, 0, 0, 10, 10, 1},
		{func() { x.Put(9, []byte("j")) }, 0, 0, 10, 10, 2},
		{func() { x.Put(0, []byte("ab")) }, 0, 2, 10, 8, 2},
		{func() { x.Take(1) }, 1, 2, 11, 9, 2},
		{func() { x.Put(2, []byte("cd")) }, 1, 6, 11, 5, 1},
		{func() { x.Take(9) }, 6, 6, 16, 10, 1},
		{func() { x.Put(6, []byte("ghi")) }, 6, 10, 16, 6, 0},
		{func() { x.Put(10, []byte("klmnop")) }, 6, 16, 16, 0, 0},
		{func() { x.Fin(16) }, 6, 16, 16, 0, 0},
		{func() { x.Take(10) }, 16, 16, 26, 10, 0},
	} {
		y.do()
		if x.Base() != y.base || x.Next() != y.next || x.Edge() != y.edge || x.Win() != y.win || x.Pieces() != y.pieces {
			t.Errorf("%d, %d, %d, %d, %d, not %+v", x.Base(), x.Next(), x.Edge(), x.Win(), x.Pieces(), y)
		}
	}
}

// P18.2

// Each place and length of bytes that come, to inlets to which others came, ended and not.
func TestPut(t *testing.T) {
	for came := range 1 << 5 {
		for _, end := range []uint64{0, 1, 3, 5, 6, 9, top} {
			for from := range uint64(9) {
				for many := range 9 {
					b := newBoth(t, 5, 2)
					for i := range 5 {
						if came>>i&1 > 0 {
							b.put(t, uint64(i), []byte{byte(100 + i)})
						}
					}
					b.fin(t, end)
					b.put(t, from, rising(1, many))
					b.fill(t)
				}
			}
		}
	}
}

// Those at or behind the edge aren't taken, those ahead of it are; false says that there were such.
func TestPutAtEdge(t *testing.T) {
	for _, read := range []int{0, 2} {
		for _, y := range []struct {
			from uint64
			p    string
			want bool
			next uint64
			win  uint32
		}{
			{0, "abc", true, 3, 1}, {0, "abcd", true, 4, 0}, {0, "abcde", false, 4, 0}, {0, "abcdefghij", false, 4, 0},
			{3, "d", true, 0, 4}, {3, "de", false, 0, 4}, {4, "e", false, 0, 4}, {5, "f", false, 0, 4}, {4, "", true, 0, 4}, {5, "", true, 0, 4},
		} {
			x := with(t, 4, 2, part{0, "XY"[:read]})
			x.Take(9)
			n := uint64(read)
			if x.Put(n+y.from, []byte(y.p)) != y.want || x.Next() != n+y.next || x.Win() != y.win {
				t.Errorf("%d read, %+v: %d, %d", read, y, x.Next(), x.Win())
			}
			if pieces := x.Pieces(); pieces > 0 && y.from != 3 || pieces != 1 && y.from == 3 {
				t.Errorf("%d read, %+v: %d pieces", read, y, pieces)
			}
		}
	}
	for _, n := range []uint64{0, 1, 65535, 65536} { // where an edge is as far off as may be
		x := with(t, 65536, 1)
		if x.Put(n, make([]byte, 65536-n)) != true || x.Put(n, make([]byte, 65537-n)) != false || x.Put(65536, []byte("x")) {
			t.Error(n)
		}
	}
}

// Those at or behind the end aren't taken, once it is known: it may stand ahead of the edge, at it, behind it.
func TestPutAtEnd(t *testing.T) {
	for end := range uint64(8) {
		for from := range uint64(8) {
			for many := range uint64(8) {
				x := with(t, 5, 2)
				if !x.Fin(end) {
					t.Fatal("Fin")
				}
				last := min(end, 5)
				if got, want := x.Put(from, rising(1, int(many))), many == 0 || from+many <= last; got != want {
					t.Errorf("Fin(%d), Put(%d, %d bytes): %v", end, from, many, got)
				}
				next := uint64(0)
				if from == 0 {
					next = min(many, last)
				}
				if x.Next() != next || x.Ended() != (next == end) {
					t.Errorf("Fin(%d), Put(%d, %d bytes): %d, %v", end, from, many, x.Next(), x.Ended())
				}
			}
		}
	}
	x := with(t, 5, 2, part{0, "ab"})
	if !x.Fin(2) || x.Put(2, []byte("c")) || x.Put(0, []byte("abc")) || !x.Put(0, []byte("ab")) || x.Pieces() != 0 || read(t, x) != "ab" {
		t.Error("a byte behind an end that was reached")
	}
}

// Those below Next are there, or were read: they change nothing, whatever they are.
func TestPutBelowNext(t *testing.T) {
	x := with(t, 6, 2, part{0, "abcd"})
	x.Take(2)
	for _, y := range []part{{0, "X"}, {0, "XX"}, {0, "XXX"}, {0, "XXXX"}, {1, "X"}, {1, "XXX"}, {2, "X"}, {3, "X"}, {2, "XX"}} {
		if !x.Put(y.from, []byte(y.p)) || x.Base() != 2 || x.Next() != 4 || x.Pieces() != 0 {
			t.Errorf("%v: %d", y, x.Next())
		}
	}
	if !x.Put(0, []byte("XXXXef")) || x.Next() != 6 || x.Put(0, []byte("XXXXXXghi")) || x.Next() != 8 || read(t, x) != "cdefgh" {
		t.Error("more behind those")
	}
}

// A byte that came ahead of its turn stays as it came.
func TestPutStays(t *testing.T) {
	for _, y := range []struct {
		then part
		want string
	}{
		{part{0, "XXXXXXXX"}, "XXcXXfgX"}, {part{0, "XXX"}, "XXc"}, {part{1, "XXXXXXX"}, ""}, {part{0, "XX"}, "XXc"}, {part{0, "X"}, "X"},
		{part{0, "XXXXX"}, "XXcXXfg"}, {part{0, "XXXXXX"}, "XXcXXfg"}, {part{0, "XXXXXXX"}, "XXcXXfg"},
	} {
		x := with(t, 8, 2, part{5, "fg"}, part{2, "c"})
		if !x.Put(y.then.from, []byte(y.then.p)) {
			t.Error(y)
		}
		if got := read(t, x); got != y.want {
			t.Errorf("%+v: %q", y, got)
		}
	}
	x := with(t, 8, 2, part{5, "fg"}, part{2, "c"}, part{1, "XXXXXXX"}, part{2, "YYYYY"}, part{0, "a"})
	if got := read(t, x); got != "aXcXXfgX" {
		t.Errorf("%q", got)
	}
}

// A piece too many isn't taken, and nothing is turned: not even what it would have had beside it.
func TestPutPieces(t *testing.T) {
	parts := []part{{3, "de"}, {8, "ij"}}
	for _, y := range []struct {
		then   part
		want   bool
		pieces int
		all    string // what is read, when X comes where nothing came
	}{
		{part{1, "b"}, false, 2, "XXXdeXXXijXXXXXX"}, {part{6, "g"}, false, 2, "XXXdeXXXijXXXXXX"}, {part{11, "l"}, false, 2, "XXXdeXXXijXXXXXX"}, {part{15, "p"}, false, 2, "XXXdeXXXijXXXXXX"}, {part{15, "pq"}, false, 2, "XXXdeXXXijXXXXXX"}, {part{11, "lmnopqrst"}, false, 2, "XXXdeXXXijXXXXXX"},
		{part{2, "c"}, true, 2, "XXcdeXXXijXXXXXX"}, {part{1, "bc"}, true, 2, "XbcdeXXXijXXXXXX"}, {part{5, "f"}, true, 2, "XXXdefXXijXXXXXX"}, {part{7, "h"}, true, 2, "XXXdeXXhijXXXXXX"}, {part{10, "k"}, true, 2, "XXXdeXXXijkXXXXX"}, {part{10, "klmnopq"}, false, 2, "XXXdeXXXijklmnop"},
		{part{5, "fgh"}, true, 1, "XXXdefghijXXXXXX"}, {part{4, "?fgh?"}, true, 1, "XXXdefghijXXXXXX"}, {part{1, "bc??fgh??k"}, true, 1, "XbcdefghijkXXXXX"}, {part{3, "??"}, true, 2, "XXXdeXXXijXXXXXX"}, {part{9, "?"}, true, 2, "XXXdeXXXijXXXXXX"},
		{part{0, "a"}, true, 2, "aXXdeXXXijXXXXXX"}, {part{0, "abc"}, true, 1, "abcdeXXXijXXXXXX"}, {part{0, "abc??f"}, true, 1, "abcdefXXijXXXXXX"}, {part{0, "abc??fgh"}, true, 0, "abcdefghijXXXXXX"},
		{part{11, ""}, true, 2, "XXXdeXXXijXXXXXX"}, {part{16, ""}, true, 2, "XXXdeXXXijXXXXXX"}, {part{16, "q"}, false, 2, "XXXdeXXXijXXXXXX"},
	} {
		x := with(t, 16, 2, parts...)
		if got := x.Put(y.then.from, []byte(y.then.p)); got != y.want || x.Pieces() != y.pieces {
			t.Errorf("%+v: %v, %d pieces", y, got, x.Pieces())
		}
		if !x.Put(0, bytes.Repeat([]byte("X"), 16)) {
			t.Errorf("%+v: nothing else has room", y)
		}
		if got := read(t, x); got != y.all {
			t.Errorf("%+v: %q", y, got)
		}
	}
}

// Bytes that begin at Next need no piece, however many there are, even where bytes below Next, or behind the edge, come with them.
func TestPutAtNext(t *testing.T) {
	for _, y := range []struct {
		then   part
		want   bool
		next   uint64
		pieces int
	}{
		{part{2, "c"}, true, 3, 1}, {part{0, "??c"}, true, 3, 1}, {part{1, "?cd"}, true, 4, 1}, {part{2, "cde"}, true, 6, 0}, {part{2, "cde?"}, true, 6, 0}, {part{0, "??cde?gh"}, true, 8, 0}, {part{0, "??cde?ghi"}, false, 8, 0}, {part{3, "d"}, false, 2, 1}, {part{4, "e"}, true, 2, 1}, {part{6, "gh"}, true, 2, 1}, {part{7, "h"}, false, 2, 1},
	} {
		x := with(t, 8, 1, part{0, "ab"}, part{5, "f"})
		if got := x.Put(y.then.from, []byte(y.then.p)); got != y.want || x.Next() != y.next || x.Pieces() != y.pieces {
			t.Errorf("%+v: %v, %d, %d", y, got, x.Next(), x.Pieces())
		}
		if got := read(t, x); got != "abcdefgh"[:y.next] {
			t.Errorf("%+v: %q", y, got)
		}
	}
}

// No bytes are none that is too far, wherever they would begin; bytes that go round aren't taken.
func TestPutFar(t *testing.T) {
	for _, end := range []uint64{3, 4, 9, half, top} {
		for _, from := range oddNumbers {
			b := newBoth(t, 4, 1)
			b.put(t, 2, []byte("c"))
			b.fin(t, end)
			for _, p := range [][]byte{nil, {}, []byte("x"), []byte("xy"), []byte("xyz"), rising(1, 70)} {
				b.put(t, from, p)
			}
			b.fill(t)
		}
	}
	x := with(t, 4, 1)
	for _, y := range []part{{top, "x"}, {top, "xyz"}, {top - 1, "xyz"}, {top - 2, "xyz"}, {top - 2, "xyzabcd"}, {top - 3, "xyz"}, {half, "x"}, {1 << 32, "x"}, {1<<32 - 2, "xyz"}} {
		if x.Put(y.from, []byte(y.p)) || x.Next() != 0 || x.Pieces() != 0 {
			t.Errorf("%v: %d, %d", y, x.Next(), x.Pieces())
		}
	}
	if !x.Put(top, nil) || !x.Put(top, []byte{}) || x.Pieces() != 0 {
		t.Error("no bytes")
	}
}

// P18.3

// Each end, to inlets to which others came; and once more, and another one.
func TestFin(t *testing.T) {
	for came := range 1 << 5 {
		for _, taken := range []int{0, 1, 9} {
			ends := append([]uint64{3, 4, 5, 6, 7}, oddNumbers...)
			for _, end := range ends {
				b := newBoth(t, 5, 5)
				for i := range 5 {
					if came>>i&1 > 0 {
						b.put(t, uint64(i), []byte{byte(100 + i)})
					}
				}
				b.take(t, taken)
				b.fin(t, end)
				b.fin(t, end)
				b.fin(t, end+1)
				b.fin(t, end-1)
				b.fill(t)
				b.fin(t, end)
			}
		}
	}
}

// Which end may be: not one below Next, not one ahead of a byte that came; one that was refused isn't known.
func TestFinMay(t *testing.T) {
	for end, want := range map[uint64]bool{0: false, 1: false, 2: false, 3: false, 4: false, 5: false, 6: true, 7: true, 8: true, 9: true, 1 << 40: true, top: true} {
		x := with(t, 8, 2, part{0, "ab"}, part{4, "ef"})
		if x.Fin(end) != want {
			t.Errorf("Fin(%d): not %v", end, want)
		}
		if !want && (!x.Put(6, []byte("gh")) || !x.Fin(8) || x.Fin(end)) {
			t.Errorf("Fin(%d) was refused, and turned something", end)
		}
		if want && (x.Fin(end-1) || x.Fin(end+1) || !x.Fin(end)) {
			t.Errorf("Fin(%d): another one is taken", end)
		}
	}
	for end, want := range map[uint64]bool{0: false, 1: false, 2: false, 3: true, 4: true, top: true} {
		x := with(t, 8, 2, part{0, "abc"})
		if x.Take(1); x.Fin(end) != want {
			t.Errorf("Fin(%d) of bytes in order: not %v", end, want)
		}
		x = with(t, 8, 2, part{0, "abc"})
		if x.Take(3); x.Fin(end) != want {
			t.Errorf("Fin(%d) of bytes that were read: not %v", end, want)
		}
	}
}

// It has ended when all came up to the end, be it read or not: then the end counts as one.
func TestEnded(t *testing.T) {
	x := with(t, 4, 2)
	for _, y := range []struct {
		do    func()
		ack   uint64
		ended bool
	}{
		{func() {}, 0, false}, {func() { x.Put(0, []byte("ab")) }, 2, false}, {func() { x.Fin(1) }, 2, false}, {func() { x.Fin(5) }, 2, false}, {func() { x.Put(3, []byte("d")) }, 2, false}, {func() { x.Take(2) }, 2, false},
		{func() { x.Put(4, []byte("e")) }, 2, false}, {func() { x.Put(4, []byte("ef")) }, 2, false}, {func() { x.Put(2, []byte("c")) }, 6, true}, {func() { x.Fin(6) }, 6, true}, {func() { x.Take(1) }, 6, true}, {func() { x.Put(5, []byte("f")) }, 6, true}, {func() { x.Take(9) }, 6, true}, {func() { x.Take(9) }, 6, true},
	} {
		y.do()
		if x.Ack() != y.ack || x.Ended() != y.ended {
			t.Errorf("%d, %v, not %d, %v", x.Ack(), x.Ended(), y.ack, y.ended)
		}
	}
	x = with(t, 4, 2) // a stream without bytes
	if x.Ended() || x.Ack() != 0 || !x.Fin(0) || !x.Ended() || x.Ack() != 1 || x.Next() != 0 || x.Put(0, []byte("a")) || x.Next() != 0 {
		t.Error(x.Ended(), x.Ack())
	}
	x = with(t, 4, 2, part{0, "abc"}) // the end comes last
	if !x.Fin(3) || !x.Ended() || x.Ack() != 4 || x.Next() != 3 || x.Win() != 1 {
		t.Error(x.Ended(), x.Ack())
	}
	x = with(t, 4, 2, part{0, "abc"}) // an end that no byte leads to
	if !x.Fin(top) || x.Ended() || x.Ack() != 3 || !x.Put(3, []byte("d")) || x.Ended() || x.Ack() != 4 {
		t.Error(x.Ended(), x.Ack())
	}
}

// P18.4

func TestTake(t *testing.T) {
	for there := range 6 {
		for _, many := range oddInts {
			for _, fin := range []bool{false, true} {
				b := newBoth(t, 5, 2)
				b.put(t, 0, rising(60, there))
				b.put(t, 6, []byte("x"))
				if fin {
					b.fin(t, uint64(there))
				}
				b.take(t, many)
				b.take(t, many)
				b.take(t, 2)
				b.take(t, 9)
				b.take(t, many)
				b.fill(t)
			}
		}
	}
}

// The errors: neither is answered while bytes are there, nor if none are asked for; one that has an end isn't at it.
func TestTakeErrors(t *testing.T) {
	for _, y := range []struct {
		came  []part
		end   uint64 // known, if it is below 99
		taken int
		many  int
		want  string
		e     api.Errno
	}{
		{nil, 99, 0, 1, "", api.ErrBlock}, {nil, 99, 0, 0, "", api.OK}, {nil, 99, 0, -1, "", api.OK}, {nil, 99, 0, math.MinInt, "", api.OK}, {nil, 0, 0, 1, "", api.ErrEOF}, {nil, 0, 0, 0, "", api.OK}, {nil, 0, 0, -1, "", api.OK}, {nil, 1, 0, 1, "", api.ErrBlock}, {nil, 1, 0, 0, "", api.OK},
		{[]part{{1, "b"}}, 99, 0, 1, "", api.ErrBlock}, {[]part{{1, "b"}}, 2, 0, 1, "", api.ErrBlock}, {[]part{{1, "b"}}, 2, 0, 0, "", api.OK},
		{[]part{{0, "ab"}}, 99, 0, 1, "a", api.OK}, {[]part{{0, "ab"}}, 99, 0, 0, "", api.OK}, {[]part{{0, "ab"}}, 99, 0, 2, "ab", api.OK}, {[]part{{0, "ab"}}, 99, 0, math.MaxInt, "ab", api.OK}, {[]part{{0, "ab"}}, 2, 0, 1, "a", api.OK}, {[]part{{0, "ab"}}, 2, 0, 9, "ab", api.OK},
		{[]part{{0, "ab"}}, 99, 2, 1, "", api.ErrBlock}, {[]part{{0, "ab"}}, 2, 2, 1, "", api.ErrEOF}, {[]part{{0, "ab"}}, 2, 2, math.MaxInt, "", api.ErrEOF}, {[]part{{0, "ab"}}, 2, 2, 0, "", api.OK}, {[]part{{0, "ab"}}, 3, 2, 1, "", api.ErrBlock}, {[]part{{0, "ab"}}, 2, 1, 9, "b", api.OK},
		{[]part{{0, "ab"}, {3, "d"}}, 4, 0, 9, "ab", api.OK}, {[]part{{0, "ab"}, {3, "d"}}, 4, 2, 9, "", api.ErrBlock},
	} {
		x := with(t, 8, 2, y.came...)
		if y.end < 99 {
			x.Fin(y.end)
		}
		x.Take(y.taken)
		base := x.Base()
		if b, e := x.Take(y.many); string(b) != y.want || e != y.e || x.Base() != base+uint64(len(y.want)) {
			t.Errorf("%+v: %q, %v, base %d", y, b, e, x.Base())
		}
	}
}

// P18.5

// orders: each order of these parts.
func orders(l []part) [][]part {
	if len(l) == 0 {
		return [][]part{nil}
	}
	var all [][]part
	for i := range l {
		rest := append(append([]part{}, l[:i]...), l[i+1:]...)
		for _, o := range orders(rest) {
			all = append(all, append([]part{l[i]}, o...))
		}
	}
	return all
}

// A stream's pieces in each order, each of them twice over, read at once or in the end.
func TestOrders(t *testing.T) {
	const all = "abcdefghijkl"
	for _, l := range orders([]part{{0, "abc"}, {2, "cde"}, {3, "d"}, {5, "fgh"}, {7, "hij"}, {10, "kl"}}) {
		for _, at := range []bool{false, true} {
			x := with(t, 12, 6)
			got := ""
			for i, p := range l {
				if !x.Put(p.from, []byte(p.p)) || !x.Put(l[i/2].from, []byte(l[i/2].p)) {
					t.Fatal(l, p)
				}
				if at {
					got += read(t, x)
				}
				if x.Next() > uint64(len(all)) || got != all[:x.Base()] {
					t.Fatalf("%v: %q", l, got)
				}
			}
			if !x.Fin(12) || !x.Ended() || got+read(t, x) != all {
				t.Errorf("%v: %q", l, got)
			}
			if b, e := x.Take(1); b != nil || e != api.ErrEOF {
				t.Error(b, e)
			}
		}
	}
}

// A stream in pieces that are drawn, too early, too late, too long: what is read is a beginning of it, and all of it in the end.
func TestStream(t *testing.T) {
	r := rand.New(rand.NewSource(6))
	for _, size := range []int{1, 2, 5, 16, 100, 1000} {
		for _, pieces := range []int{1, 2, 7, 64} {
			all := make([]byte, 40*size+r.Intn(50))
			r.Read(all)
			x := with(t, size, pieces)
			var got []byte
			for i := 0; len(got) < len(all); i++ {
				from := max(0, len(got)-size+r.Intn(3*size))
				if i%3 == 0 {
					from = int(x.Next()) // so that it goes on
				}
				from = min(from, len(all))
				to := min(from+r.Intn(size+2), len(all))
				x.Put(uint64(from), all[from:to])
				if r.Intn(9) == 0 {
					x.Fin(uint64(len(all)))
				}
				b, e := x.Take(r.Intn(size + 1))
				if got = append(got, b...); e == api.ErrEOF || !bytes.Equal(got, all[:len(got)]) {
					t.Fatalf("New(%d, %d): %v behind %d bytes of %d", size, pieces, e, len(got), len(all))
				}
				if x.Base() != uint64(len(got)) || x.Next() > uint64(len(all)) {
					t.Fatalf("New(%d, %d): %d, %d read", size, pieces, x.Base(), len(got))
				}
			}
			x.Fin(uint64(len(all)))
			if b, e := x.Take(1); b != nil || e != api.ErrEOF || x.Ack() != uint64(len(all)+1) {
				t.Errorf("New(%d, %d): %v, %v in the end", size, pieces, b, e)
			}
		}
	}
}

// P1, P2

// Each run of five calls on a small inlet.
func TestEachRun(t *testing.T) {
	calls := []func(*both){
		func(b *both) { b.put(t, b.slow.next(), []byte("ab")) },
		func(b *both) { b.put(t, b.slow.base, []byte("cdefgh")) },
		func(b *both) { b.put(t, b.slow.next()+1, []byte("i")) },
		func(b *both) { b.put(t, b.slow.next()+2, []byte("jk")) },
		func(b *both) { b.put(t, b.slow.edge()-1, []byte("lm")) },
		func(b *both) { b.fin(t, b.slow.next()) },
		func(b *both) { b.fin(t, b.slow.edge()) },
		func(b *both) { b.take(t, 1) },
		func(b *both) { b.take(t, 3) },
	}
	for n := range len(calls) * len(calls) * len(calls) * len(calls) * len(calls) {
		b := newBoth(t, 4, 1)
		for range 5 {
			calls[n%len(calls)](b)
			n /= len(calls)
		}
		b.fill(t)
	}
}

func TestDrawn(t *testing.T) {
	r := rand.New(rand.NewSource(7))
	for range 1500 {
		size := 1 + r.Intn([]int{4, 12, 90}[r.Intn(3)])
		b := newBoth(t, size, r.Intn([]int{3, 6, 70}[r.Intn(3)]))
		for range 50 {
			n := b.slow.base - 2 + uint64(r.Intn(size+6))
			if r.Intn(12) == 0 {
				n = oddNumbers[r.Intn(len(oddNumbers))]
			}
			switch r.Intn(9) {
			case 0, 1, 2, 3, 4, 5:
				p := make([]byte, r.Intn([]int{2, 4, size + 4}[r.Intn(3)]))
				r.Read(p)
				b.put(t, n, p)
			case 6, 7:
				b.take(t, r.Intn(size+2)-1)
			case 8:
				if r.Intn(4) == 0 {
					b.fin(t, n)
				}
			}
		}
		b.fill(t)
	}
}

// The greatest inlet has room for all its bytes, ahead of their turn too, wherever its ring turns.
func TestGreatest(t *testing.T) {
	x := with(t, 65536, 64)
	n := uint64(0)
	for i, many := range []int{1, 65535, 60000, 65536} {
		all := rising(i, 65536)
		for from := 65536 - 1024; from > 0; from -= 1024 { // from behind on
			if !x.Put(n+uint64(from), all[from:from+1024]) || x.Next() != n || x.Pieces() != 1 {
				t.Fatal(from, x.Next(), x.Pieces())
			}
		}
		if !x.Put(n, all[:1024]) || x.Next() != n+65536 || x.Win() != 0 || x.Pieces() != 0 || x.Put(n+65536, []byte("x")) {
			t.Fatal(x.Next(), x.Win(), x.Pieces())
		}
		if b, e := x.Take(many); e != api.OK || !bytes.Equal(b, all[:many]) {
			t.Fatal(e)
		}
		x.Take(65536)
		n += 65536
		if x.Base() != n || x.Win() != 65536 {
			t.Fatal(x.Base(), x.Win())
		}
	}
}

// What is the ring's is the inlet's: what came in order, its room.
func TestRing(t *testing.T) {
	x := with(t, 6, 2, part{0, "abcd"}, part{5, "f"})
	x.Take(2)
	var r *ring.Ring = x.Ring
	if x.Len() != 2 || x.Free() != 4 || x.Size() != 6 || string(x.Peek(0, 9)) != "cd" || string(x.Peek(1, 9)) != "d" {
		t.Error(x.Len(), x.Free(), x.Size())
	}
	if r.Len() != 2 || r.Size() != 6 || string(r.Peek(0, 9)) != "cd" {
		t.Error(r.Len(), r.Size())
	}
}

// The ring's calls that turn it never lead an inlet astray so far that one of its own calls panics, and its next number is the ring's.
func TestRingTurned(t *testing.T) {
	r := rand.New(rand.NewSource(8))
	for range 4000 {
		x, _ := inlet.New(1+r.Intn(9), 1+r.Intn(3))
		for range 30 {
			n := r.Intn(9) - 2
			switch r.Intn(8) {
			case 0:
				x.Write(rising(1, max(n, 0)))
			case 1:
				x.Skip(n)
			case 2:
				x.Grow(n)
			case 3:
				x.Set(n, []byte("xy"))
			case 4:
				x.Ring.Read(n)
			case 5, 6:
				x.Put(x.Base()+uint64(n), rising(1, r.Intn(9)))
				x.Take(n)
			case 7:
				if r.Intn(9) == 0 {
					x.Fin(x.Base() + uint64(n))
				}
			}
			if x.Next() != x.Base()+uint64(x.Len()) || x.Edge() != x.Base()+uint64(x.Size()) || int(x.Win()) != x.Free() || x.Ack() < x.Next() || x.Pieces() < 0 {
				t.Fatal(x.Base(), x.Next(), x.Edge(), x.Win(), x.Ack())
			}
		}
	}
}

// What is handed in isn't changed, and isn't kept; what lies behind its length isn't read.
func TestHandedIn(t *testing.T) {
	room := []byte("abcdef")
	x, _ := inlet.New(8, 2)
	if !x.Put(0, room[:2]) || !x.Put(3, room[3:5]) || !x.Put(2, room[:0]) || string(room) != "abcdef" || x.Next() != 2 {
		t.Error(string(room), x.Next())
	}
	clear(room)
	if !x.Put(2, []byte("c")) || read(t, x) != "abcde" {
		t.Error("what was handed in is kept")
	}
}

// What is answered is new memory: whoever writes into it turns no inlet, and what comes then turns no answer.
func TestAnswered(t *testing.T) {
	x := with(t, 4, 2, part{0, "abcd"})
	one, _ := x.Take(2)
	if string(append(one, 'x', 'y')) != "abxy" || string(x.Peek(0, 9)) != "cd" {
		t.Error("Take hands out what lies behind")
	}
	x.Put(4, []byte("ef"))
	two, _ := x.Take(4)
	clear(one)
	x.Put(6, []byte("ghij"))
	if string(two) != "cdef" || read(t, x) != "ghij" {
		t.Error("Take shares its bytes")
	}
}

// An inlet's answers depend on the calls made of it alone.
func TestAlone(t *testing.T) {
	one, two := with(t, 4, 2), with(t, 4, 2)
	one.Put(0, []byte("ab"))
	one.Put(3, []byte("d"))
	one.Fin(4)
	one.Take(1)
	if two.Base() != 0 || two.Next() != 0 || two.Pieces() != 0 || two.Len() != 0 || !two.Fin(7) {
		t.Error("two inlets share what they have")
	}
	if !two.Put(0, []byte("xyz")) || read(t, two) != "xyz" || read(t, one) != "b" || !one.Fin(4) {
		t.Error("two inlets share what they have")
	}
}
