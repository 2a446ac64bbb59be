package outlet_test

import (
	"bytes"
	"fmt"
	"math"
	"math/rand"
	"slices"
	"testing"

	"brougham/api"
	"brougham/outlet"
	"brougham/ring"
)

const (
	stream = 1 << 62
	half   = 1 << 63
	top    = math.MaxUint64
)

// oddSizes: sizes at the bounds; which of them may be.
var oddSizes = map[int]bool{
	math.MinInt: false, math.MinInt + 1: false, -1 << 32: false, -65536: false, -2: false, -1: false, 0: false,
	1: true, 2: true, 3: true, 4: true, 1024: true, 4096: true, 65534: true, 65535: true, 65536: true,
	65537: false, 65538: false, 1 << 31: false, 1 << 32: false, 1<<32 + 1: false, math.MaxInt - 1: false, math.MaxInt: false,
}

// oddBases: bases at the bounds; which of them may be.
var oddBases = map[uint64]bool{
	0: true, 1: true, 2: true, 65535: true, 65536: true, 1<<31 - 1: true, 1 << 31: true, 1<<32 - 1: true, 1 << 32: true, 1<<32 + 1: true,
	stream - 65536: true, stream - 2: true, stream - 1: true, stream: true,
	stream + 1: false, stream + 2: false, half - 1: false, half: false, half + 1: false, top - 1: false, top: false,
}

// oddNumbers: numbers of a stream, whatever was written of it.
var oddNumbers = []uint64{0, 1, 2, 1 << 31, 1<<32 - 1, 1 << 32, 1<<32 + 1, stream - 1, stream, stream + 1, stream + 2, half - 1, half, half + 1, top - 65536, top - 2, top - 1, top}

// oddInts: how many bytes one may ask for.
var oddInts = []int{math.MinInt, math.MinInt + 1, -1 << 32, -2, -1, 0, 1, 2, 3, 4, 5, 9, 65535, 65536, 65537, 1 << 31, 1 << 32, 1<<32 + 1, math.MaxInt - 1, math.MaxInt}

// slow is a stream that one writes, by the words of the chapter: all that was ever written is kept, each byte with its number.
type slow struct {
	size   int
	base   uint64
	end    uint64
	all    map[uint64]byte
	closed bool
	done   bool
}

func newSlow(size int, base uint64) *slow {
	return &slow{size: size, base: base, end: base, all: map[uint64]byte{}}
}

func (s *slow) put(b []byte) (int, api.Errno) {
	if s.closed {
		return 0, api.ErrClosed
	}
	if len(b) == 0 {
		return 0, api.OK
	}
	if s.end == stream {
		return 0, api.ErrLimit
	}
	if s.end == s.base+uint64(s.size) {
		return 0, api.ErrBlock
	}
	n := 0
	for n < len(b) && s.end < stream && s.end < s.base+uint64(s.size) {
		s.all[s.end] = b[n]
		s.end++
		n++
	}
	return n, api.OK
}

func (s *slow) top() uint64 {
	if s.closed {
		return s.end + 1
	}
	return s.end
}

func (s *slow) acked(to uint64) bool {
	if !(to > s.base) || to > s.top() || s.done {
		return false
	}
	if to > s.end {
		s.base = s.end
		s.done = true
		return true
	}
	s.base = to
	return true
}

func (s *slow) bytes(from uint64, many int) []byte {
	var l []byte
	for n := s.base; n < s.end; n++ {
		if from >= s.base && n >= from && len(l) < many {
			l = append(l, s.all[n])
		}
	}
	return l
}

// both is an outlet, the slow one to which the same was done, and what was done.
type both struct {
	out  *outlet.Outlet
	slow *slow
	told []string
}

func newBoth(t *testing.T, size int, base uint64) *both {
	t.Helper()
	o, e := outlet.At(size, base)
	if e != api.OK || o == nil {
		t.Fatalf("At(%d, %d): %v", size, base, e)
	}
	b := &both{out: o, slow: newSlow(size, base), told: []string{fmt.Sprintf("At(%d, %d)", size, base)}}
	b.look(t)
	return b
}

// look: does an outlet say what it is to say, when it is looked at?
func (b *both) look(t *testing.T) {
	t.Helper()
	o, s := b.out, b.slow
	there := int(s.end - s.base)
	if o.Base() != s.base || o.End() != s.end || o.Top() != s.top() || o.Closed() != s.closed || o.Done() != s.done {
		t.Fatalf("%v: base %d, end %d, top %d, closed %v, done %v, not %d, %d, %d, %v, %v", b.told, o.Base(), o.End(), o.Top(), o.Closed(), o.Done(), s.base, s.end, s.top(), s.closed, s.done)
	}
	if o.Len() != there || o.Free() != s.size-there || o.Size() != s.size {
		t.Fatalf("%v: %d there, %d free, size %d, not %d of %d", b.told, o.Len(), o.Free(), o.Size(), there, s.size)
	}
	want := s.bytes(s.base, there)
	if got := o.Bytes(s.base, there); !bytes.Equal(got, want) || !bytes.Equal(o.Peek(0, there), want) {
		t.Fatalf("%v: %v, not %v", b.told, got, want)
	}
}

func (b *both) put(t *testing.T, p []byte) {
	t.Helper()
	b.told = append(b.told, fmt.Sprintf("Put(%v)", p))
	n, e := b.out.Put(p)
	if m, f := b.slow.put(p); n != m || e != f {
		t.Fatalf("%v: %d, %v, not %d, %v", b.told, n, e, m, f)
	}
	b.look(t)
}

func (b *both) close(t *testing.T) {
	t.Helper()
	b.told = append(b.told, "Close")
	b.out.Close()
	b.slow.closed = true
	b.look(t)
}

func (b *both) acked(t *testing.T, to uint64) {
	t.Helper()
	b.told = append(b.told, fmt.Sprintf("Acked(%d)", to))
	if got, want := b.out.Acked(to), b.slow.acked(to); got != want {
		t.Fatalf("%v: %v, not %v", b.told, got, want)
	}
	b.look(t)
}

func (b *both) bytes(t *testing.T, from uint64, many int) {
	t.Helper()
	if got, want := b.out.Bytes(from, many), b.slow.bytes(from, many); !bytes.Equal(got, want) {
		t.Fatalf("%v: Bytes(%d, %d): %v, not %v", b.told, from, many, got, want)
	}
	b.look(t)
}

// rising: so many bytes, from one on.
func rising(from, many int) []byte {
	l := make([]byte, many)
	for i := range l {
		l[i] = byte(from + i)
	}
	return l
}

// at: an outlet with these bytes, of a size, from a base on.
func at(t *testing.T, size int, base uint64, p string) *outlet.Outlet {
	t.Helper()
	o, e := outlet.At(size, base)
	if e != api.OK {
		t.Fatal(e)
	}
	if n, e := o.Put([]byte(p)); n != len(p) || e != api.OK {
		t.Fatal(n, e)
	}
	return o
}

func TestExample(t *testing.T) {
	o, e := outlet.New(4)
	if e != api.OK {
		t.Fatal(e)
	}
	if n, e := o.Put([]byte("abcde")); n != 4 || e != api.OK {
		t.Error(n, e)
	}
	if !o.Acked(2) {
		t.Error("Acked")
	}
	if n, e := o.Put([]byte("e")); n != 1 || e != api.OK {
		t.Error(n, e)
	}
	if s := string(o.Bytes(3, 9)); s != "de" {
		t.Error(s)
	}
	o.Close()
	if n := o.Top(); n != 6 {
		t.Error(n)
	}
}

// P17.1

func TestNew(t *testing.T) {
	for size, may := range oddSizes {
		o, e := outlet.New(size)
		if !may {
			if o != nil || e != api.ErrRing {
				t.Errorf("New(%d): %v, %v", size, o, e)
			}
			continue
		}
		if o == nil || e != api.OK {
			t.Fatalf("New(%d): %v", size, e)
		}
		b := &both{out: o, slow: newSlow(size, 0)}
		b.look(t)
		b.put(t, rising(3, size+1))
		b.put(t, rising(3, 1))
	}
}

// ErrLimit is named first: of a base that is too great it doesn't matter which size.
func TestAt(t *testing.T) {
	for size, may := range oddSizes {
		for base, is := range oddBases {
			want := api.OK
			if !may {
				want = api.ErrRing
			}
			if !is {
				want = api.ErrLimit
			}
			o, e := outlet.At(size, base)
			if e != want || (o == nil) != (want != api.OK) {
				t.Errorf("At(%d, %d): %v, not %v", size, base, e, want)
			}
			if o != nil {
				b := &both{out: o, slow: newSlow(size, base)}
				b.look(t)
			}
		}
	}
}

// P17.2

// Each number of places that are there, and of bytes that come.
func TestPut(t *testing.T) {
	for size := 1; size <= 5; size++ {
		for there := range size + 1 {
			for many := range size + 3 {
				for _, base := range []uint64{0, 7, 1<<32 - 3} {
					b := newBoth(t, size, base)
					b.put(t, rising(1, there))
					b.put(t, rising(50, many))
					want := append(rising(1, there), rising(50, min(many, size-there))...)
					if got := b.out.Bytes(base, 99); !bytes.Equal(got, want) {
						t.Fatalf("%v: %v, not %v", b.told, got, want)
					}
				}
			}
		}
	}
}

// As many as the stream may have: it is the room, or the stream, that is the less of both.
func TestPutToStream(t *testing.T) {
	for _, size := range []int{1, 2, 3, 5, 65536} {
		for left := range uint64(8) {
			for many := range 8 {
				b := newBoth(t, size, stream-left)
				b.put(t, rising(1, many))
				b.put(t, rising(9, many))
				b.put(t, rising(70, 9))
				b.put(t, rising(70, 1))
				b.put(t, nil)
				b.acked(t, b.out.End())
				b.put(t, rising(80, 9))
				b.close(t)
				b.put(t, rising(90, 1))
				b.acked(t, b.out.Top())
				b.acked(t, b.out.Top())
			}
		}
	}
	o := at(t, 9, stream-3, "")
	if n, e := o.Put([]byte("abcd")); n != 3 || e != api.OK || o.End() != stream || o.Free() != 6 || string(o.Bytes(stream-3, 9)) != "abc" {
		t.Error(n, e)
	}
	if n, e := o.Put([]byte("d")); n != 0 || e != api.ErrLimit || o.End() != stream {
		t.Error(n, e)
	}
}

// The errors in their order: which is answered, where others apply, too.
func TestPutErrors(t *testing.T) {
	for _, x := range []struct {
		base   uint64
		full   bool
		closed bool
		bytes  string
		want   api.Errno
	}{
		{0, false, false, "", api.OK}, {0, true, false, "", api.OK}, {stream - 2, true, false, "", api.OK}, {stream, false, false, "", api.OK},
		{0, true, false, "x", api.ErrBlock}, {stream - 3, true, false, "x", api.ErrBlock}, {stream - 2, true, false, "x", api.ErrLimit}, {stream, false, false, "x", api.ErrLimit}, {stream, false, false, "xyz", api.ErrLimit},
		{0, false, true, "x", api.ErrClosed}, {0, false, true, "", api.ErrClosed}, {0, true, true, "x", api.ErrClosed}, {0, true, true, "", api.ErrClosed},
		{stream - 2, true, true, "x", api.ErrClosed}, {stream - 2, true, true, "", api.ErrClosed}, {stream, false, true, "x", api.ErrClosed}, {stream, false, true, "", api.ErrClosed},
	} {
		b := newBoth(t, 2, x.base)
		if x.full {
			b.put(t, []byte("ab"))
		}
		if x.closed {
			b.close(t)
		}
		if n, e := b.out.Put([]byte(x.bytes)); n != 0 || e != x.want {
			t.Errorf("%+v: %d, %v", x, n, e)
		}
		b.look(t) // nothing was changed
	}
}

// Behind a full one there is room again for what the other end has.
func TestPutAgain(t *testing.T) {
	for had := range uint64(5) {
		b := newBoth(t, 4, 90)
		b.put(t, []byte("abcd"))
		b.put(t, []byte("x"))
		b.acked(t, 90+had)
		b.put(t, []byte("efghi"))
		if got, want := string(b.out.Bytes(90+had, 9)), "abcdefghi"[had:had+4]; got != want {
			t.Errorf("%v: %q, not %q", b.told, got, want)
		}
	}
}

// Once it was closed, it is; all that was written is there still.
func TestClose(t *testing.T) {
	for _, base := range []uint64{0, 5, stream - 3} {
		for _, p := range []string{"", "a", "abc"} {
			o := at(t, 4, base, p)
			end := base + uint64(len(p))
			if o.Closed() || o.Base() != base || o.End() != end || o.Top() != end {
				t.Errorf("%d, %q: %v, %d, %d, %d", base, p, o.Closed(), o.Base(), o.End(), o.Top())
			}
			for range 3 {
				o.Close()
				if !o.Closed() || o.Base() != base || o.End() != end || o.Top() != end+1 || o.Done() || string(o.Bytes(base, 9)) != p {
					t.Errorf("%d, %q: %v, %d, %d, %d", base, p, o.Closed(), o.Base(), o.End(), o.Top())
				}
			}
			if n, e := o.Put([]byte("z")); n != 0 || e != api.ErrClosed || o.End() != end || o.Len() != len(p) {
				t.Errorf("%d, %q: %d, %v", base, p, n, e)
			}
		}
	}
}

// The top is the end's, and follows it; one more of one that was closed, once the other end has all, too.
func TestTop(t *testing.T) {
	o := at(t, 3, 10, "ab")
	for _, x := range []struct {
		do  func()
		top uint64
	}{
		{func() {}, 12}, {func() { o.Acked(11) }, 12}, {func() { o.Put([]byte("cde")) }, 14}, {o.Close, 15}, {func() { o.Acked(14) }, 15}, {func() { o.Acked(15) }, 15}, {o.Close, 15},
	} {
		x.do()
		if o.Top() != x.top {
			t.Errorf("%d, not %d", o.Top(), x.top)
		}
	}
}

// P17.3

// Each number round the base, the end and the top, of an open one and a closed one; and once more.
func TestAcked(t *testing.T) {
	for _, base := range []uint64{0, 1, 9, 1<<32 - 2, stream - 3, stream} {
		for there := range 4 {
			for _, closed := range []bool{false, true} {
				numbers := slices.Clone(oddNumbers)
				for d := range uint64(9) {
					numbers = append(numbers, base-2+d)
				}
				for _, to := range numbers {
					b := newBoth(t, 3, base)
					b.put(t, rising(60, there))
					if closed {
						b.close(t)
					}
					b.acked(t, to)
					b.acked(t, to)
					b.acked(t, b.out.End())
					b.acked(t, b.out.Top())
					b.acked(t, b.out.Top())
				}
			}
		}
	}
}

// What the other end has is gone; the rest has its numbers still.
func TestAckedGoes(t *testing.T) {
	for had := uint64(1); had <= 5; had++ {
		o := at(t, 8, 20, "abcde")
		if !o.Acked(20+had) || o.Acked(20+had) || o.Acked(20+had-1) || o.Base() != 20+had || o.End() != 25 || o.Len() != 5-int(had) || o.Done() {
			t.Errorf("Acked(%d): %d to %d", 20+had, o.Base(), o.End())
		}
		if got := string(o.Bytes(20+had, 9)); got != "abcde"[had:] || len(o.Bytes(20+had-1, 9)) != 0 {
			t.Errorf("Acked(%d): %q", 20+had, got)
		}
	}
	o := at(t, 8, 20, "abcde")
	if o.Acked(20) || o.Acked(19) || o.Acked(0) || o.Acked(26) || o.Acked(top) || o.Base() != 20 || string(o.Bytes(20, 9)) != "abcde" {
		t.Error("Acked of what isn't new, or wasn't written")
	}
}

// The end counts as one, behind the last byte: it is no byte, and has come when all ahead of it has.
func TestAckedEnd(t *testing.T) {
	for _, had := range []uint64{0, 2, 3} {
		o := at(t, 4, 5, "abc")
		o.Acked(5 + had)
		if o.Acked(9) {
			t.Error("the end of one that is open")
		}
		o.Close()
		if o.Done() || o.Acked(10) || o.Done() {
			t.Error("more than the end")
		}
		if !o.Acked(9) || !o.Done() || o.Base() != 8 || o.End() != 8 || o.Top() != 9 || o.Len() != 0 || !o.Closed() {
			t.Errorf("%d had: %v, %d to %d, %d", had, o.Done(), o.Base(), o.End(), o.Top())
		}
		if o.Acked(9) || o.Acked(8) || o.Acked(10) || !o.Done() || o.Base() != 8 {
			t.Error("the end once more")
		}
	}
}

// All bytes, but not the end: that isn't all, whether it was closed ahead of it or behind it.
func TestDone(t *testing.T) {
	for _, p := range []string{"", "a", "abc"} {
		end := 7 + uint64(len(p))
		o := at(t, 3, 7, p)
		o.Acked(end)
		if o.Done() || o.Base() != end {
			t.Errorf("%q: done ahead of the end", p)
		}
		o.Close()
		if o.Done() || o.Acked(end) || o.Done() {
			t.Errorf("%q: done without word of the end", p)
		}
		if !o.Acked(end+1) || !o.Done() || o.Base() != end {
			t.Errorf("%q: not done", p)
		}
	}
	o := at(t, 3, 7, "ab")
	o.Close()
	if !o.Acked(9) || o.Done() || !o.Acked(10) || !o.Done() {
		t.Error("closed, then all bytes, then the end")
	}
}

// Each number and how many, of each turn of the ring.
func TestBytes(t *testing.T) {
	for turn := range 5 {
		b := newBoth(t, 4, 100)
		b.put(t, rising(1, turn))
		b.acked(t, 100+uint64(turn))
		b.put(t, []byte("abc"))
		base := b.out.Base()
		for d := range uint64(9) {
			for _, many := range oddInts {
				b.bytes(t, base-3+d, many)
			}
		}
		for _, from := range oddNumbers {
			for _, many := range oddInts {
				b.bytes(t, from, many)
			}
		}
		for _, x := range []struct {
			from uint64
			many int
			want string
		}{
			{base, 3, "abc"}, {base, 2, "ab"}, {base, 4, "abc"}, {base, math.MaxInt, "abc"}, {base + 1, 1, "b"}, {base + 1, 9, "bc"}, {base + 2, 1, "c"}, {base + 2, 9, "c"},
			{base + 3, 1, ""}, {base + 4, 1, ""}, {base - 1, 1, ""}, {base - 1, 9, ""}, {base, 0, ""}, {base, -1, ""}, {base + 1<<32, 3, ""}, {base + 1<<63, 3, ""}, {top, 3, ""},
		} {
			if got := string(b.out.Bytes(x.from, x.many)); got != x.want {
				t.Errorf("Bytes(%d, %d): %q, not %q", x.from, x.many, got, x.want)
			}
		}
	}
}

// At the stream's very end its last bytes are there, and none behind them.
func TestBytesAtStream(t *testing.T) {
	o := at(t, 8, stream-2, "yz")
	o.Close()
	for from, want := range map[uint64]string{stream - 3: "", stream - 2: "yz", stream - 1: "z", stream: "", stream + 1: "", half: "", top: ""} {
		if got := string(o.Bytes(from, 9)); got != want {
			t.Errorf("Bytes(%d): %q, not %q", from, got, want)
		}
	}
	if o.Top() != stream+1 || !o.Acked(stream+1) || !o.Done() || o.Base() != stream || len(o.Bytes(stream, 9)) != 0 {
		t.Error(o.Top(), o.Base(), o.Done())
	}
}

// P17.4

// A stream goes through in pieces, and arrives as it was put.
func TestOrder(t *testing.T) {
	r := rand.New(rand.NewSource(3))
	for _, size := range []int{1, 2, 3, 7, 64, 1000} {
		for _, base := range []uint64{0, 1<<32 - 50, stream - 100000} {
			o, _ := outlet.At(size, base)
			var put, came []byte
			for range 1500 {
				p := make([]byte, r.Intn(size+3))
				r.Read(p)
				n, _ := o.Put(p)
				put = append(put, p[:n]...)
				l := o.Bytes(base+uint64(len(came)), r.Intn(size+3))
				came = append(came, l...)
				if o.Acked(base+uint64(len(came))) != (len(l) > 0) {
					t.Fatal("Acked")
				}
				if o.End() != base+uint64(len(put)) || o.Base() != base+uint64(len(came)) {
					t.Fatalf("size %d: %d to %d, %d put, %d came", size, o.Base(), o.End(), len(put), len(came))
				}
			}
			o.Close()
			came = append(came, o.Bytes(o.Base(), size)...)
			if !o.Acked(o.Top()) || !o.Done() || !bytes.Equal(came, put) {
				t.Errorf("size %d: what was put isn't what came", size)
			}
		}
	}
}

// Bytes asked for again, of any number that is there still, are the same ones.
func TestAgain(t *testing.T) {
	r := rand.New(rand.NewSource(4))
	o, _ := outlet.New(50)
	var put []byte
	for range 3000 {
		p := make([]byte, r.Intn(9))
		r.Read(p)
		n, _ := o.Put(p)
		put = append(put, p[:n]...)
		from := o.Base() + uint64(r.Intn(o.Len()+1))
		many := r.Intn(12)
		if got, want := o.Bytes(from, many), put[from:min(int(from)+many, len(put))]; !bytes.Equal(got, want) {
			t.Fatalf("Bytes(%d, %d): %v, not %v", from, many, got, want)
		}
		o.Acked(o.Base() + uint64(r.Intn(7)))
	}
}

// P1, P2

// Each run of five calls on a small outlet, ahead of the stream's very end and far from it.
func TestEachRun(t *testing.T) {
	calls := []func(*both){
		func(b *both) { b.put(t, []byte("a")) },
		func(b *both) { b.put(t, []byte("bcd")) },
		func(b *both) { b.put(t, nil) },
		func(b *both) { b.close(t) },
		func(b *both) { b.acked(t, b.slow.base) },
		func(b *both) { b.acked(t, b.slow.base+1) },
		func(b *both) { b.acked(t, b.slow.base+2) },
		func(b *both) { b.acked(t, b.slow.end) },
		func(b *both) { b.acked(t, b.slow.end+1) },
	}
	for _, base := range []uint64{0, stream - 2} {
		for n := range len(calls) * len(calls) * len(calls) * len(calls) * len(calls) {
			b := newBoth(t, 2, base)
			for range 5 {
				calls[n%len(calls)](b)
				n /= len(calls)
			}
		}
	}
}

func TestDrawn(t *testing.T) {
	r := rand.New(rand.NewSource(5))
	for range 600 {
		size := 1 + r.Intn([]int{3, 8, 70}[r.Intn(3)])
		base := []uint64{0, 1<<32 - 9, stream - 40, stream - 200}[r.Intn(4)]
		b := newBoth(t, size, base)
		for range 60 {
			n := b.slow.base - 2 + uint64(r.Intn(size+5))
			if r.Intn(10) == 0 {
				n = oddNumbers[r.Intn(len(oddNumbers))]
			}
			switch r.Intn(10) {
			case 0, 1, 2, 3:
				p := make([]byte, r.Intn(size+2))
				r.Read(p)
				b.put(t, p)
			case 4, 5, 6:
				b.acked(t, n)
			case 7, 8:
				b.bytes(t, n, oddInts[r.Intn(len(oddInts))])
			case 9:
				if r.Intn(5) == 0 {
					b.close(t)
				}
			}
		}
	}
}

// The greatest outlet has room for all its bytes, at each turn.
func TestGreatest(t *testing.T) {
	b := newBoth(t, 65536, 1<<32-70000)
	for i, had := range []uint64{1, 65535, 60000, 65536} {
		b.put(t, rising(i, 65537))
		b.put(t, rising(i, 1))
		b.acked(t, b.slow.base+had)
	}
	b.put(t, rising(9, 65536))
	b.close(t)
	b.acked(t, b.slow.end+1)
}

// What is the ring's is the outlet's: its bytes, its room.
func TestRing(t *testing.T) {
	o := at(t, 5, 70, "abcd")
	o.Acked(72)
	var r *ring.Ring = o.Ring
	if o.Len() != 2 || o.Free() != 3 || o.Size() != 5 || string(o.Peek(0, 9)) != "cd" || string(o.Peek(1, 9)) != "d" {
		t.Error(o.Len(), o.Free(), o.Size())
	}
	if r.Len() != 2 || r.Size() != 5 || string(r.Peek(0, 9)) != "cd" {
		t.Error(r.Len(), r.Size())
	}
}

// The ring's calls that turn it never lead an outlet astray so far that one of its own calls panics, and its end is the ring's.
func TestRingTurned(t *testing.T) {
	for turn := range 8 {
		for _, base := range []uint64{0, stream - 1, stream} {
			o, _ := outlet.At(4, base)
			o.Write([]byte("abc"))
			if turn&1 > 0 {
				o.Skip(2)
			}
			if turn&2 > 0 {
				o.Grow(1)
			}
			if turn&4 > 0 {
				o.Close()
			}
			if o.End() != o.Base()+uint64(o.Len()) {
				t.Errorf("%d to %d, %d there", o.Base(), o.End(), o.Len())
			}
			for _, n := range append(slices.Clone(oddNumbers), o.Base(), o.End(), o.Top()) {
				o.Bytes(n, math.MaxInt)
				o.Put([]byte("xyz"))
				o.Acked(n)
				o.Read(1)
			}
		}
	}
}

// What is handed in isn't changed, and isn't kept; what lies behind its length isn't read.
func TestHandedIn(t *testing.T) {
	room := []byte("abcdef")
	o, _ := outlet.New(8)
	if n, e := o.Put(room[:3]); n != 3 || e != api.OK || string(room) != "abcdef" {
		t.Error(n, e, string(room))
	}
	if n, e := o.Put(room[:0]); n != 0 || e != api.OK {
		t.Error(n, e)
	}
	clear(room)
	if got := string(o.Bytes(0, 9)); got != "abc" {
		t.Errorf("%q", got)
	}
}

// What is answered is new memory: whoever writes into it turns no outlet, and no other answer.
func TestAnswered(t *testing.T) {
	o := at(t, 4, 3, "abcd")
	one, two := o.Bytes(3, 4), o.Bytes(3, 4)
	clear(one)
	if string(two) != "abcd" || string(o.Bytes(3, 4)) != "abcd" {
		t.Error("Bytes shares its bytes")
	}
	if p := o.Bytes(3, 2); string(append(p, 'x')) != "abx" || string(o.Bytes(3, 4)) != "abcd" || string(p[:cap(p)]) == "abcd" {
		t.Error("Bytes hands out what lies behind")
	}
	o.Acked(7)
	o.Put([]byte("efgh"))
	if string(two) != "abcd" {
		t.Error("what was answered changes")
	}
}

// An outlet's answers depend on the calls made of it alone.
func TestAlone(t *testing.T) {
	one, _ := outlet.New(3)
	two, _ := outlet.New(3)
	one.Put([]byte("abc"))
	one.Acked(1)
	one.Close()
	one.Acked(4)
	if two.Len() != 0 || two.Base() != 0 || two.End() != 0 || two.Closed() || two.Done() {
		t.Error("two outlets share what they have")
	}
	if n, e := two.Put([]byte("xyz")); n != 3 || e != api.OK || one.Len() != 0 || string(two.Bytes(0, 9)) != "xyz" {
		t.Error(n, e)
	}
}
