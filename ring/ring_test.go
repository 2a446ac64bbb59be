package ring_test

import (
	"bytes"
	"fmt"
	"math"
	"math/rand"
	"slices"
	"testing"

	"brougham/api"
	"brougham/ring"
)

// anyNumbers: numbers that a call may be given, whatever the ring.
var anyNumbers = []int{math.MinInt, math.MinInt + 1, -api.MaxRing, -2, -1, 0, 1, 2, 3, 4, 5, 9, api.MaxRing - 1, api.MaxRing, api.MaxRing + 1, math.MaxInt32, math.MaxInt - 1, math.MaxInt}

// slow is a ring whose places lie in their order, not round.
type slow struct {
	places []byte
	there  int
}

func (s *slow) write(p []byte) int {
	many := 0
	for many < len(p) && s.there < len(s.places) {
		s.places[s.there] = p[many]
		s.there++
		many++
	}
	return many
}

func (s *slow) peek(from, many int) []byte {
	var l []byte
	for i := 0; i < s.there; i++ {
		if from >= 0 && i >= from && len(l) < many {
			l = append(l, s.places[i])
		}
	}
	return l
}

func (s *slow) skip(many int) int {
	n := 0
	for n < many && s.there > 0 {
		s.places = append(slices.Clone(s.places[1:]), 0)
		s.there--
		n++
	}
	return n
}

func (s *slow) read(many int) []byte {
	l := s.peek(0, many)
	s.skip(many)
	return l
}

func (s *slow) set(from int, p []byte) bool {
	if from < 0 || from > len(s.places) || len(p) > len(s.places[from:]) {
		return false
	}
	for i, x := range p {
		s.places[from+i] = x
	}
	return true
}

func (s *slow) grow(many int) bool {
	if many < 0 || many > len(s.places)-s.there {
		return false
	}
	s.there += many
	return true
}

// both is a ring, the slow one to which the same was done, and what was done.
type both struct {
	ring *ring.Ring
	slow slow
	told []string
}

func newBoth(t *testing.T, size int) *both {
	t.Helper()
	r, e := ring.New(size)
	if e != api.OK || r == nil {
		t.Fatalf("New(%d): %v", size, e)
	}
	return &both{ring: r, slow: slow{places: make([]byte, size)}}
}

// same: did both answer the same, and do they look the same? (The places that aren't there are looked at by a copy that grows.)
func (b *both) same(t *testing.T, call string, got, want any) {
	t.Helper()
	b.told = append(b.told, call)
	grown := *b.ring
	grown.Grow(grown.Free())
	one := fmt.Sprint(got, b.ring.Len(), b.ring.Free(), b.ring.Size(), b.ring.Peek(0, math.MaxInt), grown.Peek(0, math.MaxInt))
	all, there := b.slow.places, b.slow.there
	two := fmt.Sprint(want, there, len(all)-there, len(all), all[:there], all)
	if one != two {
		t.Fatalf("%v: %v, not %v", b.told, one, two)
	}
}

func (b *both) write(t *testing.T, p []byte) {
	t.Helper()
	b.same(t, fmt.Sprintf("Write(%v)", p), b.ring.Write(p), b.slow.write(p))
}

func (b *both) peek(t *testing.T, from, many int) {
	t.Helper()
	b.same(t, fmt.Sprintf("Peek(%d, %d)", from, many), b.ring.Peek(from, many), b.slow.peek(from, many))
}

func (b *both) skip(t *testing.T, many int) {
	t.Helper()
	b.same(t, fmt.Sprintf("Skip(%d)", many), b.ring.Skip(many), b.slow.skip(many))
}

func (b *both) read(t *testing.T, many int) {
	t.Helper()
	b.same(t, fmt.Sprintf("Read(%d)", many), b.ring.Read(many), b.slow.read(many))
}

func (b *both) set(t *testing.T, from int, p []byte) {
	t.Helper()
	b.same(t, fmt.Sprintf("Set(%d, %v)", from, p), b.ring.Set(from, p), b.slow.set(from, p))
}

func (b *both) grow(t *testing.T, many int) {
	t.Helper()
	b.same(t, fmt.Sprintf("Grow(%d)", many), b.ring.Grow(many), b.slow.grow(many))
}

// calls: how many there are.
const calls = 6

// do: one of the calls.
func (b *both) do(t *testing.T, call, a int, p []byte) {
	t.Helper()
	switch call {
	case 0:
		b.write(t, p)
	case 1:
		b.peek(t, a, len(p))
	case 2:
		b.skip(t, a)
	case 3:
		b.read(t, a)
	case 4:
		b.set(t, a, p)
	case 5:
		b.grow(t, a)
	}
}

// rising: so many bytes, from one on.
func rising(from, many int) []byte {
	l := make([]byte, many)
	for i := range l {
		l[i] = byte(from + i)
	}
	return l
}

// P5.1

func TestNew(t *testing.T) {
	for _, size := range anyNumbers {
		r, e := ring.New(size)
		if size < 1 || size > api.MaxRing {
			if r != nil || e != api.ErrRing {
				t.Errorf("New(%d): %v, %v", size, r, e)
			}
			continue
		}
		if e != api.OK || r == nil || r.Len() != 0 || r.Free() != size || r.Size() != size || len(r.Peek(0, size)) != 0 {
			t.Errorf("New(%d): %v", size, e)
		}
	}
}

func TestPlaces(t *testing.T) {
	b := newBoth(t, 5)
	for _, x := range []struct{ write, skip, grow, there int }{{0, 0, 0, 0}, {3, 0, 0, 3}, {0, 1, 0, 2}, {0, 0, 1, 3}, {9, 0, 0, 5}, {0, 2, 1, 4}, {0, 9, 0, 0}, {0, 0, 5, 5}, {1, 5, 0, 0}} {
		b.write(t, rising(1, x.write))
		b.skip(t, x.skip)
		b.grow(t, x.grow)
		if r := b.ring; r.Len() != x.there || r.Free() != 5-x.there || r.Size() != 5 {
			t.Errorf("%v: %d, %d, %d", x, r.Len(), r.Free(), r.Size())
		}
	}
}

// P5.2

func TestExample(t *testing.T) {
	r, _ := ring.New(4)
	if n := r.Write([]byte("abc")); n != 3 {
		t.Error(n)
	}
	if n := r.Skip(2); n != 2 {
		t.Error(n)
	}
	if n := r.Write([]byte("defg")); n != 3 {
		t.Error(n)
	}
	if s := string(r.Read(9)); s != "cdef" {
		t.Error(s)
	}
}

func TestWrite(t *testing.T) {
	for there := range 5 {
		for many := range 7 {
			r, _ := ring.New(4)
			r.Write(rising(1, there))
			if n := r.Write(rising(50, many)); n != min(many, 4-there) {
				t.Errorf("%d there, %d more: %d", there, many, n)
			}
			want := append(rising(1, there), rising(50, min(many, 4-there))...)
			if got := r.Peek(0, 9); !bytes.Equal(got, want) {
				t.Errorf("%d there, %d more: %v", there, many, got)
			}
		}
	}
	r, _ := ring.New(2)
	if r.Write(nil) != 0 || r.Write([]byte{}) != 0 || r.Len() != 0 {
		t.Error("Write of nothing")
	}
}

func TestPeek(t *testing.T) {
	r, _ := ring.New(6)
	r.Write([]byte("......"))
	r.Skip(4)
	r.Write([]byte("abc"))
	r.Skip(2)
	for _, x := range []struct {
		from, many int
		want       string
	}{
		{0, 3, "abc"}, {0, 2, "ab"}, {0, 1, "a"}, {1, 1, "b"}, {1, 2, "bc"}, {2, 1, "c"}, {2, 2, "c"}, {0, 4, "abc"}, {1, math.MaxInt, "bc"}, {2, math.MaxInt, "c"},
		{3, 1, ""}, {3, math.MaxInt, ""}, {4, 1, ""}, {6, 1, ""}, {math.MaxInt, math.MaxInt, ""}, {-1, 4, ""}, {math.MinInt, math.MaxInt, ""}, {0, 0, ""}, {0, -1, ""}, {2, math.MinInt, ""}, {-1, -1, ""},
	} {
		if got := string(r.Peek(x.from, x.many)); got != x.want {
			t.Errorf("Peek(%d, %d): %q, not %q", x.from, x.many, got, x.want)
		}
	}
	if r.Len() != 3 || string(r.Peek(0, 9)) != "abc" {
		t.Error("Peek turned it")
	}
}

func TestSkip(t *testing.T) {
	for _, x := range []struct {
		many, went int
		left       string
	}{
		{math.MinInt, 0, "abc"}, {-1, 0, "abc"}, {0, 0, "abc"}, {1, 1, "bc"}, {2, 2, "c"}, {3, 3, ""}, {4, 3, ""}, {5, 3, ""}, {6, 3, ""}, {math.MaxInt, 3, ""},
	} {
		r, _ := ring.New(5)
		r.Write([]byte("abc"))
		if n := r.Skip(x.many); n != x.went || string(r.Peek(0, 9)) != x.left || r.Size() != 5 || r.Free() != 5-len(x.left) {
			t.Errorf("Skip(%d): %d, %q, %d free", x.many, n, r.Peek(0, 9), r.Free())
		}
	}
}

// The places that go come behind all, with bytes 0; those that aren't there move up as they are.
func TestSkipClears(t *testing.T) {
	for turn := range 6 {
		for went := range 4 {
			r, _ := ring.New(5)
			r.Grow(turn % 6)
			r.Skip(turn)
			r.Write([]byte("abc"))
			r.Set(3, []byte("de"))
			if n := r.Skip(went); n != went {
				t.Errorf("Skip(%d): %d", went, n)
			}
			r.Grow(r.Free())
			if got, want := string(r.Peek(0, 9)), "abcde"[went:]+"\x00\x00\x00"[:went]; got != want {
				t.Errorf("Skip(%d): %q, not %q", went, got, want)
			}
		}
	}
	r, _ := ring.New(3)
	r.Set(0, []byte("xyz"))
	if r.Skip(2) != 0 || !r.Grow(3) || string(r.Peek(0, 3)) != "xyz" {
		t.Error("places that aren't there went")
	}
}

func TestRead(t *testing.T) {
	for _, x := range []struct {
		many       int
		read, left string
	}{
		{math.MinInt, "", "abc"}, {-1, "", "abc"}, {0, "", "abc"}, {1, "a", "bc"}, {2, "ab", "c"}, {3, "abc", ""}, {4, "abc", ""}, {math.MaxInt, "abc", ""},
	} {
		r, _ := ring.New(3)
		r.Write([]byte("..a"))
		r.Skip(2)
		r.Write([]byte("bc"))
		if got := string(r.Read(x.many)); got != x.read || string(r.Peek(0, 9)) != x.left || r.Free() != 3-len(x.left) {
			t.Errorf("Read(%d): %q, %q left", x.many, got, r.Peek(0, 9))
		}
		for r.Len() > 0 {
			r.Read(1)
		}
		if len(r.Read(9)) != 0 || !r.Grow(3) || string(r.Read(3)) != "\x00\x00\x00" {
			t.Errorf("Read(%d): what went is still there", x.many)
		}
	}
}

// P5.3

func TestSet(t *testing.T) {
	for _, x := range []struct {
		from int
		p    string
		ok   bool
		all  string
	}{
		{0, "", true, "abcd\x00\x00"}, {0, "x", true, "xbcd\x00\x00"}, {0, "uvwxyz", true, "uvwxyz"}, {0, "tuvwxyz", false, ""}, {1, "xy", true, "axyd\x00\x00"}, {1, "vwxyz", true, "avwxyz"}, {1, "uvwxyz", false, ""},
		{3, "xyz", true, "abcxyz"}, {4, "xy", true, "abcdxy"}, {4, "xyz", false, ""}, {5, "x", true, "abcd\x00x"}, {5, "xy", false, ""}, {6, "x", false, ""}, {6, "", true, "abcd\x00\x00"},
		{7, "", false, ""}, {7, "x", false, ""}, {math.MaxInt, "", false, ""}, {math.MaxInt, "x", false, ""}, {math.MaxInt - 1, "xyz", false, ""}, {-1, "", false, ""}, {-1, "x", false, ""}, {-1, "xy", false, ""}, {math.MinInt, "x", false, ""},
	} {
		for turn := range 6 {
			r, _ := ring.New(6)
			r.Grow(turn)
			r.Skip(turn)
			r.Write([]byte("abcd"))
			if ok := r.Set(x.from, []byte(x.p)); ok != x.ok || r.Len() != 4 || r.Free() != 2 {
				t.Errorf("Set(%d, %q): %v, %d there", x.from, x.p, ok, r.Len())
			}
			if !x.ok {
				x.all = "abcd\x00\x00"
			}
			r.Grow(2)
			if got := string(r.Peek(0, 9)); got != x.all {
				t.Errorf("Set(%d, %q): %q, not %q", x.from, x.p, got, x.all)
			}
		}
	}
}

func TestGrow(t *testing.T) {
	for _, x := range []struct {
		many int
		ok   bool
		want string
	}{
		{math.MinInt, false, "a"}, {-1, false, "a"}, {0, true, "a"}, {1, true, "a\x00"}, {2, true, "a\x00x"}, {3, true, "a\x00xy"}, {4, false, "a"}, {5, false, "a"}, {math.MaxInt, false, "a"},
	} {
		r, _ := ring.New(4)
		r.Write([]byte("..a"))
		r.Skip(2)
		r.Set(2, []byte("xy"))
		if ok := r.Grow(x.many); ok != x.ok || string(r.Peek(0, 9)) != x.want {
			t.Errorf("Grow(%d): %v, %q", x.many, ok, r.Peek(0, 9))
		}
	}
}

// What was set ahead is written over by what is written there.
func TestWriteOver(t *testing.T) {
	r, _ := ring.New(4)
	r.Set(1, []byte("xyz"))
	if r.Write([]byte("ab")) != 2 || !r.Grow(2) || string(r.Read(9)) != "abyz" {
		t.Error("Write where Set was")
	}
}

// Each call, at each turn of each small ring, with each number of places that are there.
func TestEachTurn(t *testing.T) {
	for size := 1; size <= 4; size++ {
		for turn := range size {
			for there := range size + 1 {
				for a := -1; a <= size+1; a++ {
					for n := range size + 2 {
						for call := range calls {
							b := newBoth(t, size)
							b.write(t, rising(100, turn))
							b.skip(t, turn)
							b.set(t, 0, rising(1, size))
							b.grow(t, there)
							b.do(t, call, a, rising(50, n))
						}
					}
				}
			}
		}
	}
}

func TestDrawn(t *testing.T) {
	r := rand.New(rand.NewSource(1))
	for range 400 {
		size := 1 + r.Intn([]int{3, 8, 70}[r.Intn(3)])
		b := newBoth(t, size)
		for range 60 {
			a := r.Intn(size+4) - 2
			if r.Intn(10) == 0 {
				a = anyNumbers[r.Intn(len(anyNumbers))]
			}
			p := make([]byte, r.Intn(size+2))
			r.Read(p)
			b.do(t, r.Intn(calls), a, p)
		}
	}
}

// The greatest ring has all its places.
func TestGreatest(t *testing.T) {
	b := newBoth(t, api.MaxRing)
	p := rising(7, api.MaxRing+1)
	if n := b.ring.Write(p); n != api.MaxRing {
		t.Fatal(n)
	}
	if n := b.ring.Skip(60000); n != 60000 {
		t.Fatal(n)
	}
	if n := b.ring.Write(p); n != 60000 {
		t.Fatal(n)
	}
	want := append(slices.Clone(p[60000:api.MaxRing]), p[:60000]...)
	if got := b.ring.Read(math.MaxInt); !bytes.Equal(got, want) {
		t.Error("what was written isn't read")
	}
	if !b.ring.Grow(api.MaxRing) || !bytes.Equal(b.ring.Read(api.MaxRing), make([]byte, api.MaxRing)) {
		t.Error("what went isn't 0")
	}
}

// P5.4

func TestOrder(t *testing.T) {
	r := rand.New(rand.NewSource(2))
	for _, size := range []int{1, 2, 3, 7, 64, 1000} {
		x, _ := ring.New(size)
		written, read := []byte(nil), []byte(nil)
		for range 3000 {
			p := make([]byte, r.Intn(size+3))
			r.Read(p)
			written = append(written, p[:x.Write(p)]...)
			read = append(read, x.Read(r.Intn(size+3))...)
			if x.Len() != len(written)-len(read) {
				t.Fatalf("size %d: %d there, %d written, %d read", size, x.Len(), len(written), len(read))
			}
		}
		read = append(read, x.Read(size)...)
		if !bytes.Equal(read, written) {
			t.Errorf("size %d: what was written isn't what was read", size)
		}
	}
}

// P1, P2

// Each call takes any number.
func TestAny(t *testing.T) {
	for _, a := range anyNumbers {
		for _, n := range anyNumbers {
			b := newBoth(t, 4)
			b.write(t, []byte("abc"))
			b.skip(t, 2)
			b.set(t, 2, []byte("xy"))
			b.peek(t, a, n)
			for call := range calls {
				b.do(t, call, a, nil)
				b.do(t, call, n, []byte("vw"))
			}
		}
	}
}

// What is handed in isn't changed, and isn't kept; what lies behind its length isn't read.
func TestHandedIn(t *testing.T) {
	room := []byte("abcdef")
	r, _ := ring.New(8)
	if r.Write(room[:3]) != 3 || !r.Set(3, room[3:5]) || !r.Set(5, room[:0]) || string(room) != "abcdef" {
		t.Error(string(room))
	}
	clear(room)
	r.Grow(5)
	if got := string(r.Peek(0, 9)); got != "abcde\x00\x00\x00" {
		t.Errorf("%q", got)
	}
}

// What is answered is new memory: whoever writes into it turns no ring, and no other answer.
func TestAnswered(t *testing.T) {
	r, _ := ring.New(4)
	r.Write([]byte("abcd"))
	one, two := r.Peek(0, 4), r.Peek(0, 4)
	clear(one)
	if string(two) != "abcd" || string(r.Peek(0, 4)) != "abcd" {
		t.Error("Peek shares its bytes")
	}
	if p := r.Peek(0, 2); string(append(p, 'x')) != "abx" || string(r.Peek(0, 4)) != "abcd" || string(p[:cap(p)]) == "abcd" {
		t.Error("Peek hands out what lies behind")
	}
	three := r.Read(2)
	r.Write([]byte("ef"))
	if string(three) != "ab" {
		t.Error("what was read changes")
	}
	clear(three)
	clear(three[:cap(three)])
	if string(r.Read(4)) != "cdef" {
		t.Error("Read shares its bytes")
	}
}

// A ring's answers depend on the calls made of it alone.
func TestAlone(t *testing.T) {
	one, _ := ring.New(3)
	two, _ := ring.New(3)
	one.Write([]byte("abc"))
	one.Skip(1)
	if two.Len() != 0 || !two.Grow(3) || string(two.Read(3)) != "\x00\x00\x00" || string(one.Read(3)) != "bc" {
		t.Error("two rings share what they have")
	}
}
