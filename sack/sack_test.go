package sack_test

import (
	"bytes"
	"encoding/binary"
	"encoding/hex"
	"fmt"
	"math"
	"math/rand"
	"slices"
	"strings"
	"testing"

	"brougham/api"
	"brougham/sack"
)

const (
	round  = 1 << 32
	half   = 1 << 31
	last   = math.MaxUint32
	window = 1 << 20
)

// bases: numbers that may be waited for: at the seam, about half the way round, and others.
var bases = []uint32{0, 1, 5, 1000, window, half - 3, half - 1, half, half + 1, last - window, last - 5, last - 1, last}

// same: do two options say the same? A nil body is an empty one.
func same(a, b api.Option) bool { return a.Kind == b.Kind && bytes.Equal(a.Body, b.Body) }

// steps: how many steps forth, round, lead from a number to another one.
func steps(from, to uint32) int64 {
	d := int64(to) - int64(from)
	if d < 0 {
		d += round
	}
	return d
}

// blocks: pieces, by how far their bounds are ahead of what is waited for.
func blocks(wait uint32, l ...int64) []sack.Block {
	var out []sack.Block
	for x := range slices.Chunk(l, 2) {
		out = append(out, sack.Block{From: wait + uint32(x[0]), To: wait + uint32(x[1])})
	}
	return out
}

// words: the bytes of numbers of four bytes each.
func words(l ...uint32) []byte {
	var b []byte
	for _, x := range l {
		b = binary.BigEndian.AppendUint32(b, x)
	}
	return b
}

// may: may pieces be said? Asked by how many steps lead from the one bound to the next one.
func may(wait uint32, l []sack.Block) bool {
	isAhead := func(a, b uint32) bool { return steps(b, a) >= 1 && steps(b, a) < half }
	for i, b := range l {
		behind := wait
		if i > 0 {
			behind = l[i-1].To
		}
		if !isAhead(b.From, behind) || !isAhead(b.To, b.From) || !isAhead(b.To, wait) {
			return false
		}
	}
	return len(l) <= 4
}

// P31.1

// Up to the bounds, and one past each, from each number that is waited for.
func TestRight(t *testing.T) {
	for _, x := range []struct {
		l    []int64
		want bool
	}{
		{nil, true}, {[]int64{1, 2}, true}, {[]int64{0, 1}, false}, {[]int64{-1, 1}, false}, {[]int64{0, 0}, false}, {[]int64{1, 1}, false}, {[]int64{2, 1}, false}, {[]int64{1, 0}, false}, {[]int64{-2, -1}, false}, {[]int64{-1, 0}, false}, {[]int64{7, 9}, true},
		{[]int64{1, half - 1}, true}, {[]int64{1, half}, false}, {[]int64{1, half + 1}, false}, {[]int64{2, half - 1}, true}, {[]int64{2, half}, false}, {[]int64{half - 2, half - 1}, true}, {[]int64{half - 1, half}, false}, {[]int64{half - 1, half - 1}, false}, {[]int64{half, half + 1}, false}, {[]int64{half, 5}, false}, {[]int64{half + 1, half + 2}, false}, {[]int64{half + 5, round + 3}, false},
		{[]int64{1, 2, 3, 4}, true}, {[]int64{1, 2, 2, 3}, false}, {[]int64{1, 3, 2, 4}, false}, {[]int64{3, 4, 1, 2}, false}, {[]int64{1, 2, 1, 2}, false}, {[]int64{1, 2, 3, 3}, false}, {[]int64{1, 2, 4, 3}, false}, {[]int64{1, 2, 0, 5}, false}, {[]int64{0, 2, 3, 4}, false}, {[]int64{1, 1, 3, 4}, false}, {[]int64{1, 9, 3, 5}, false},
		{[]int64{1, 2, half - 2, half - 1}, true}, {[]int64{1, 2, half - 1, half}, false}, {[]int64{1, 2, half + 1, half + 2}, false}, {[]int64{1, 2, half + 2, half + 3}, false}, {[]int64{1, half - 3, half - 2, half - 1}, true}, {[]int64{1, half - 2, half - 1, half}, false},
		{[]int64{1, 2, 3, 4, 5, 6}, true}, {[]int64{1, 2, 3, 4, 4, 5}, false}, {[]int64{1, 2, 3, 4, 5, 6, 7, 8}, true}, {[]int64{1, 2, 3, 4, 5, 6, 6, 8}, false}, {[]int64{1, 2, 3, 4, 5, 6, 7, 7}, false}, {[]int64{1, 2, 3, 4, 5, 6, 7, 8, 9, 10}, false}, {[]int64{1, window, window + 1, 2 * window, 3 * window, 4 * window, 5 * window, half - 1}, true},
	} {
		for _, wait := range bases {
			l := blocks(wait, x.l...)
			if got := sack.Right(wait, l...); got != x.want || got != may(wait, l) {
				t.Errorf("Right(%d, %v): %v", wait, l, got)
			}
		}
	}
	for many := range 300 {
		var l []int64
		for i := range int64(many) {
			l = append(l, 2*i+1, 2*i+2)
		}
		if got := sack.Right(9, blocks(9, l...)...); got != (many <= 4) {
			t.Errorf("Right of %d pieces: %v", many, got)
		}
	}
}

// Bounds that are drawn anywhere, or near the one ahead, or about half the way round.
func drawnBlocks(r *rand.Rand, wait uint32) []sack.Block {
	var l []sack.Block
	at := wait
	next := func() uint32 {
		switch r.Intn(12) {
		case 0:
			return r.Uint32()
		case 1:
			return wait + uint32(r.Intn(3))
		case 2:
			return at + half + uint32(r.Intn(5)) - 2
		case 3:
			return at + uint32(r.Intn(4)) - 1
		case 4:
			return at + uint32(r.Intn(half))
		}
		return at + 1 + uint32(r.Intn(9))
	}
	for range r.Intn(6) {
		from := next()
		at = from
		at = next()
		l = append(l, sack.Block{From: from, To: at})
	}
	return l
}

func TestRightDrawn(t *testing.T) {
	r := rand.New(rand.NewSource(1))
	yes, no := 0, 0
	for range 200000 {
		wait := bases[r.Intn(len(bases))]
		l := drawnBlocks(r, wait)
		got := sack.Right(wait, l...)
		if got != may(wait, l) {
			t.Fatalf("Right(%d, %v): %v", wait, l, got)
		}
		if got {
			yes++
		} else {
			no++
		}
	}
	if yes < 1000 || no < 1000 {
		t.Error(yes, no)
	}
}

func TestOption(t *testing.T) {
	for _, x := range []struct {
		l    []int64
		want string
	}{
		{[]int64{2, 4}, "00000002" + "00000002"}, {[]int64{1, 2}, "00000001" + "00000001"}, {[]int64{0x01020304, 0x02040608}, "01020304" + "01020304"}, {[]int64{1, half - 1}, "00000001" + "7ffffffe"}, {[]int64{half - 2, half - 1}, "7ffffffe" + "00000001"},
		{[]int64{2, 4, 5, 9}, "00000002" + "00000002" + "00000001" + "00000004"}, {[]int64{1, 3, 10, 20, 50, 51}, "00000001" + "00000002" + "00000007" + "0000000a" + "0000001e" + "00000001"},
		{[]int64{1, 2, 3, 4, 6, 8, 256 + 8, 512 + 8}, "00000001" + "00000001" + "00000001" + "00000001" + "00000002" + "00000002" + "00000100" + "00000100"},
	} {
		for _, wait := range bases {
			l := blocks(wait, x.l...)
			o, ok := sack.Option(wait, l...)
			if got := hex.EncodeToString(o.Body); !ok || o.Kind != 9 || got != x.want {
				t.Errorf("Option(%d, %v): %d, %s, %v, not %s", wait, l, o.Kind, got, ok, x.want)
			}
			if got, ok := sack.Parse(wait, o); !ok || !slices.Equal(got, l) {
				t.Errorf("Parse(%d, %v): %v, %v, not %v", wait, o, got, ok, l)
			}
		}
	}
	if sack.Kind != 9 || sack.Most != 4 {
		t.Error(sack.Kind, sack.Most)
	}
}

// Of none, and of pieces that may not be said, there is no option.
func TestNoOption(t *testing.T) {
	for _, x := range [][]int64{nil, {0, 1}, {1, 1}, {2, 1}, {-1, 3}, {1, half}, {half, half + 1}, {1, 2, 2, 3}, {3, 4, 1, 2}, {1, 2, 3, 4, 5, 6, 7, 8, 9, 10}, {1, 2, 3, 4, 5, 6, 7, 8, 9, 9}} {
		for _, wait := range bases {
			l := blocks(wait, x...)
			if o, ok := sack.Option(wait, l...); ok || o.Kind != 0 || len(o.Body) != 0 {
				t.Errorf("Option(%d, %v): %v, %v", wait, l, o, ok)
			}
		}
	}
}

// What is said is read as it was, and only what may be said is said.
func TestSaidIsRead(t *testing.T) {
	r := rand.New(rand.NewSource(2))
	for range 200000 {
		wait := bases[r.Intn(len(bases))] + uint32(r.Intn(3))
		l := drawnBlocks(r, wait)
		old := slices.Clone(l)
		o, ok := sack.Option(wait, l...)
		if ok != (len(l) > 0 && may(wait, l)) || !slices.Equal(l, old) {
			t.Fatalf("Option(%d, %v): %v, %v", wait, old, o, ok)
		}
		if !ok {
			continue
		}
		if got, is := sack.Parse(wait, o); !is || !slices.Equal(got, l) || len(o.Body) != 8*len(l) || o.Kind != 9 {
			t.Fatalf("Parse(%d, %v): %v, %v, not %v", wait, o, got, is, l)
		}
	}
}

// Each kind with each length of a body that says pieces which may be said, as far as it goes.
func TestParseLengths(t *testing.T) {
	b := words(1, 1, 1, 1, 1, 1, 1, 1, 1, 1, 1, 1, 1, 1, 1, 1)
	for kind := range 256 {
		for n := range len(b) {
			l, ok := sack.Parse(5, api.Option{Kind: byte(kind), Body: b[:n]})
			if want := kind == 9 && n%8 == 0 && n >= 8 && n <= 32; ok != want || len(l) != n/8*map[bool]int{true: 1}[want] {
				t.Fatalf("kind %d, %d bytes: %v, %v", kind, n, l, ok)
			}
		}
	}
	for _, n := range []int{40, 64, 256, 256 + 8, 65536 + 8, 1 << 20} {
		if l, ok := sack.Parse(5, api.Option{Kind: 9, Body: bytes.Repeat([]byte{0, 0, 0, 1}, n/4)}); ok || len(l) != 0 {
			t.Errorf("%d bytes: %v, %v", n, l, ok)
		}
	}
}

func TestParse(t *testing.T) {
	for _, x := range []struct {
		l    []uint32
		want []int64
	}{
		{[]uint32{2, 2}, []int64{2, 4}}, {[]uint32{1, half - 2}, []int64{1, half - 1}}, {[]uint32{half - 2, 1}, []int64{half - 2, half - 1}}, {[]uint32{2, 2, 1, 4}, []int64{2, 4, 5, 9}}, {[]uint32{1, 1, 1, 1, 1, 1, 1, 1}, []int64{1, 2, 3, 4, 5, 6, 7, 8}},
		{[]uint32{0, 1}, nil}, {[]uint32{1, 0}, nil}, {[]uint32{0, 0}, nil}, {[]uint32{1, half - 1}, nil}, {[]uint32{1, half}, nil}, {[]uint32{half - 1, 1}, nil}, {[]uint32{half, 1}, nil}, {[]uint32{half, half}, nil}, {[]uint32{last, 5}, nil}, {[]uint32{5, last}, nil}, {[]uint32{last, last}, nil},
		{[]uint32{1, 1, 0, 1}, nil}, {[]uint32{1, 1, 1, 0}, nil}, {[]uint32{1, 1, half - 3, 1}, nil}, {[]uint32{1, 1, half - 4, 1}, []int64{1, 2, half - 2, half - 1}}, {[]uint32{1, 1, 1, last}, nil}, {[]uint32{1, 1, last, 1}, nil}, {[]uint32{1, 1, 1, 1, 1, 1, 1, 0}, nil}, {[]uint32{1, 1, 1, 1, 1, 1, 0, 1}, nil}, {[]uint32{0, 1, 1, 1, 1, 1, 1, 1}, nil},
	} {
		for _, wait := range bases {
			want := blocks(wait, x.want...)
			if l, ok := sack.Parse(wait, api.Option{Kind: 9, Body: words(x.l...)}); ok != (x.want != nil) || !slices.Equal(l, want) {
				t.Errorf("Parse(%d, %v): %v, %v, not %v", wait, x.l, l, ok, want)
			}
		}
	}
}

// What is read is said as it was; what isn't says pieces that may not be said.
func TestReadIsSaid(t *testing.T) {
	r := rand.New(rand.NewSource(3))
	yes, no := 0, 0
	for range 200000 {
		wait := bases[r.Intn(len(bases))]
		var n []uint32
		var want []sack.Block
		at := wait
		for range 1 + r.Intn(5) {
			for range 2 {
				n = append(n, []uint32{uint32(r.Intn(3)), 1 + uint32(r.Intn(9)), 1 + uint32(r.Intn(9)), 1 + uint32(r.Intn(9)), half - uint32(r.Intn(30)), uint32(r.Intn(half)), r.Uint32()}[r.Intn(7)])
			}
			from := at + n[len(n)-2]
			at = from + n[len(n)-1]
			want = append(want, sack.Block{From: from, To: at})
		}
		o := api.Option{Kind: 9, Body: words(n...)}
		l, ok := sack.Parse(wait, o)
		if ok != may(wait, want) || ok && !slices.Equal(l, want) || !ok && len(l) != 0 {
			t.Fatalf("Parse(%d, %v): %v, %v", wait, n, l, ok)
		}
		if !ok {
			no++
			continue
		}
		yes++
		if back, is := sack.Option(wait, l...); !is || !same(back, o) {
			t.Fatalf("Option(%d, %v): %v, not %v", wait, l, back, o)
		}
	}
	if yes < 1000 || no < 1000 {
		t.Error(yes, no)
	}
}

// slow is a board that keeps each number that came, by how far it was ahead of what was waited for first.
type slow struct {
	most  int
	first uint32
	wait  int64
	there map[int64]int
}

func (s *slow) number(x int64) uint32 { return s.first + uint32(x) }

// list: the pieces that are there, ahead of what is waited for.
func (s *slow) list() []sack.Block {
	var at []int64
	for x := range s.there {
		if x > s.wait {
			at = append(at, x)
		}
	}
	slices.Sort(at)
	var l []sack.Block
	for _, x := range at {
		if n := len(l); n > 0 && l[n-1].To == s.number(x) {
			l[n-1].To = s.number(x + 1)
		} else {
			l = append(l, sack.Block{From: s.number(x), To: s.number(x + 1)})
		}
	}
	return l
}

// distance: how far a number is ahead of what is waited for, counted without going round.
func (s *slow) distance(x uint32) int64 {
	d := steps(s.number(s.wait), x)
	if d >= half {
		d -= round
	}
	return d
}

func (s *slow) came(from uint32, many int) bool {
	if many <= 0 || many > 1024 {
		return many == 0
	}
	var kept []int64
	for i := range many {
		if d := s.distance(from + uint32(i)); d >= 0 {
			kept = append(kept, d)
		}
	}
	if len(kept) == 0 {
		d := s.distance(from)
		return d > -window && d < window
	}
	if kept[0] > window || kept[len(kept)-1]+1 > window {
		return false
	}
	old, wait := s.there, s.wait
	s.there = map[int64]int{}
	for x := range old {
		s.there[x] = 1
	}
	for _, d := range kept {
		s.there[wait+d] = 1
	}
	for s.there[s.wait] == 1 {
		s.wait++
	}
	if len(s.list()) > s.most {
		s.there, s.wait = old, wait
		return false
	}
	return true
}

// both is a board, the slow one to which the same came, and what came.
type both struct {
	board *sack.Board
	slow  slow
	told  []string
}

func newBoth(t *testing.T, wait uint32, most int) *both {
	t.Helper()
	x := sack.New(wait, most)
	if x == nil {
		t.Fatalf("New(%d, %d): nil", wait, most)
	}
	return &both{board: x, slow: slow{most: most, first: wait, there: map[int64]int{}}, told: []string{fmt.Sprintf("New(%d, %d)", wait, most)}}
}

// came: numbers come, from so far ahead of what was waited for first; does the board tell the same as the slow one?
func (b *both) came(t *testing.T, from int64, many int) bool {
	t.Helper()
	x := b.slow.number(from)
	got, want := b.board.Came(x, many), b.slow.came(x, many)
	b.told = append(b.told, fmt.Sprintf("Came(%d, %d)", x, many))
	if got != want {
		t.Fatalf("%v: %v, not %v", b.told, got, want)
	}
	b.ask(t)
	return got
}

// ask: are all that a board tells the same?
func (b *both) ask(t *testing.T) {
	t.Helper()
	wait, list := b.slow.number(b.slow.wait), b.slow.list()
	if got := b.board.Wait(); got != wait {
		t.Fatalf("%v: Wait: %d, not %d", b.told, got, wait)
	}
	if got := b.board.Blocks(); !slices.Equal(got, list) {
		t.Fatalf("%v: Blocks: %v, not %v", b.told, got, list)
	}
	var want []byte
	end := wait
	for _, x := range list[:min(len(list), 4)] {
		want = append(want, words(x.From-end, x.To-x.From)...)
		end = x.To
	}
	if o, ok := b.board.Say(); ok != (len(list) > 0) || !bytes.Equal(o.Body, want) || ok && o.Kind != 9 || !ok && o.Kind != 0 {
		t.Fatalf("%v: Say: %v, %v, not %v", b.told, o, ok, want)
	}
}

// filled: a board on which so many pieces of one number each came, a number between them: 1, 3, ..
func filled(t *testing.T, wait uint32, most, pieces int) *sack.Board {
	t.Helper()
	x := sack.New(wait, most)
	for i := range uint32(pieces) {
		if !x.Came(wait+1+2*i, 1) {
			t.Fatalf("New(%d, %d): piece %d is too many", wait, most, i)
		}
	}
	return x
}

// P31.2

func TestNew(t *testing.T) {
	for _, wait := range bases {
		x := sack.New(wait, 3)
		if o, ok := x.Say(); x.Wait() != wait || len(x.Blocks()) != 0 || ok || o.Kind != 0 || len(o.Body) != 0 {
			t.Errorf("New(%d, 3): %d, %v, %v", wait, x.Wait(), x.Blocks(), o)
		}
	}
}

// As many pieces as may be, and not one more; and then the nearer bound, where most is none that may be.
func TestMost(t *testing.T) {
	for _, most := range []int{math.MinInt, math.MinInt + 1, -64, -2, -1, 0, 1, 2, 3, 4, 5, 63, 64, 65, 128, 1 << 16, math.MaxInt32, math.MaxInt - 1, math.MaxInt} {
		for _, wait := range []uint32{0, half - 10, last - 10} {
			fit := min(max(most, 1), 64)
			x := filled(t, wait, most, fit)
			old := x.Blocks()
			if len(old) != fit {
				t.Fatalf("New(%d, %d): %v", wait, most, old)
			}
			for _, far := range []uint32{2*uint32(fit) + 1, 5000, window - 1} {
				if x.Came(wait+far, 1) || x.Wait() != wait || !slices.Equal(x.Blocks(), old) {
					t.Errorf("New(%d, %d), %d pieces, and one at %d: %v", wait, most, fit, far, x.Blocks())
				}
			}
		}
	}
}

// Say tells the first four, and no more.
func TestSay(t *testing.T) {
	for _, wait := range bases {
		for pieces := range 10 {
			o, ok := filled(t, wait, 9, pieces).Say()
			want := bytes.Repeat(words(1, 1), min(pieces, 4))
			if ok != (pieces > 0) || !bytes.Equal(o.Body, want) || ok != (o.Kind == 9) {
				t.Errorf("of %d pieces: %v, %v", pieces, o, ok)
			}
		}
	}
	x := filled(t, 7, 9, 6)
	x.Came(7, 1) // the first piece goes: the next ones are told
	o, ok := x.Say()
	if l, is := sack.Parse(9, o); !ok || !is || !slices.Equal(l, []sack.Block{{From: 10, To: 11}, {From: 12, To: 13}, {From: 14, To: 15}, {From: 16, To: 17}}) {
		t.Error(l, ok, is)
	}
}

// P31.3

func TestExample(t *testing.T) {
	x := sack.New(5, 4)
	if !x.Came(7, 2) || !x.Came(5, 1) || x.Wait() != 6 || !slices.Equal(x.Blocks(), []sack.Block{{From: 7, To: 9}}) {
		t.Error(x.Wait(), x.Blocks())
	}
	if !x.Came(6, 1) || x.Wait() != 9 || len(x.Blocks()) != 0 {
		t.Error(x.Wait(), x.Blocks())
	}
}

// How many come: from none to the most that may, wherever they are.
func TestMany(t *testing.T) {
	for _, wait := range bases {
		for _, far := range []int64{0, 1, -1, 5, -1025, window - 1024, window, window + 1, -window, half, -half, half - 1} {
			for many, want := range map[int]bool{0: true, -1: false, -2: false, -1024: false, math.MinInt: false, math.MinInt + 1: false, math.MinInt32: false, 1025: false, 1026: false, 1 << 20: false, half: false, round: false, round + 1: false, -round + 5: false, math.MaxInt - 1: false, math.MaxInt: false} {
				b := newBoth(t, wait, 2)
				if got := b.came(t, far, many); got != want {
					t.Errorf("%v: %v", b.told, got)
				}
				if b.board.Wait() != wait || len(b.board.Blocks()) != 0 {
					t.Errorf("%v: %d, %v", b.told, b.board.Wait(), b.board.Blocks())
				}
			}
		}
		for many := 1; many <= 1024; many += 31 {
			b := newBoth(t, wait, 2)
			if !b.came(t, 0, many) || b.board.Wait() != wait+uint32(many) {
				t.Errorf("%v: %d", b.told, b.board.Wait())
			}
		}
	}
}

// How far ahead: up to a Window, the number behind the last too, and one past it.
func TestAhead(t *testing.T) {
	for _, wait := range bases {
		for _, x := range []struct {
			far  int64
			many int
			want bool
		}{
			{window - 1, 1, true}, {window, 1, false}, {window + 1, 1, false}, {window - 2, 2, true}, {window - 1, 2, false}, {window - 1024, 1024, true}, {window - 1023, 1024, false}, {window - 512, 1024, false}, {window, 1024, false},
			{half - 1, 1, false}, {half - 1, 2, false}, {half - 5, 10, false}, {half - 1024, 1024, false}, {half - 1023, 1024, false}, {half, 1, false}, {half, 1024, false}, {-half, 1, false}, {-half, 1024, false}, {-half + 1, 1024, false}, {1 << 30, 1, false}, {window + half, 1, false},
		} {
			b := newBoth(t, wait, 2)
			if got := b.came(t, x.far, x.many); got != x.want {
				t.Errorf("%v: %v", b.told, got)
			}
			if want := blocks(wait, x.far, x.far+int64(x.many)); x.want != slices.Equal(b.board.Blocks(), want) || b.board.Wait() != wait {
				t.Errorf("%v: %d, %v", b.told, b.board.Wait(), b.board.Blocks())
			}
		}
	}
}

// What came already: true, if it begins near what is waited for, else false; nothing is turned. What reaches up to there, and further, counts from there on.
func TestBehindWait(t *testing.T) {
	for _, wait := range bases {
		for _, x := range []struct {
			far  int64
			many int
			want bool
			up   uint32
		}{
			{-1, 1, true, 0}, {-2, 1, true, 0}, {-2, 2, true, 0}, {-1024, 1024, true, 0}, {-1025, 1024, true, 0}, {-window + 1, 1, true, 0}, {-window + 1, 1024, true, 0}, {-window, 1, false, 0}, {-window, 1024, false, 0}, {-window - 1, 1, false, 0}, {-window - 1, 1024, false, 0}, {-half + 1, 1, false, 0}, {-half, 1, false, 0},
			{-1, 2, true, 1}, {-1, 3, true, 2}, {-1, 1024, true, 1023}, {-1023, 1024, true, 1}, {-1000, 1024, true, 24}, {-5, 1024, true, 1019},
		} {
			b := newBoth(t, wait, 2)
			b.came(t, 2000, 3)
			if got := b.came(t, x.far, x.many); got != x.want || b.board.Wait() != wait+x.up || !slices.Equal(b.board.Blocks(), blocks(wait, 2000, 2003)) {
				t.Errorf("%v: %v, %d, %v", b.told, got, b.board.Wait(), b.board.Blocks())
			}
		}
	}
}

// A board that is full: what joins, touches, or begins at what is waited for is taken; what stands between pieces, or beside them, isn't, and turns nothing.
func TestFull(t *testing.T) {
	for _, wait := range bases {
		for _, x := range []struct {
			far  int64
			many int
			want []int64 // pieces, behind what is waited for; nil: nothing is turned
			up   uint32
		}{
			{5, 2, nil, 0}, {1, 8, nil, 0}, {9, 1, []int64{9, 20, 30, 40}, 0}, {8, 2, []int64{8, 20, 30, 40}, 0}, {1, 9, []int64{1, 20, 30, 40}, 0}, {1, 8, nil, 0}, {21, 1, nil, 0}, {21, 8, nil, 0}, {20, 1, []int64{10, 21, 30, 40}, 0}, {29, 1, []int64{10, 20, 29, 40}, 0}, {20, 10, []int64{10, 40}, 0}, {20, 9, []int64{10, 29, 30, 40}, 0}, {21, 9, []int64{10, 20, 21, 40}, 0},
			{5, 100, []int64{5, 105}, 0}, {10, 10, []int64{10, 20, 30, 40}, 0}, {12, 3, []int64{10, 20, 30, 40}, 0}, {15, 20, []int64{10, 40}, 0}, {40, 5, []int64{10, 20, 30, 45}, 0}, {41, 1, nil, 0}, {41, 900, nil, 0}, {39, 5, []int64{10, 20, 30, 44}, 0},
			{0, 1, []int64{10, 20, 30, 40}, 1}, {0, 9, []int64{10, 20, 30, 40}, 9}, {0, 10, []int64{30, 40}, 20}, {-5, 15, []int64{30, 40}, 20}, {0, 20, []int64{30, 40}, 20}, {0, 29, []int64{30, 40}, 29}, {0, 30, []int64{}, 40}, {0, 50, []int64{}, 50}, {-3, 100, []int64{}, 97}, {0, 15, []int64{30, 40}, 20}, {-3, 2, []int64{10, 20, 30, 40}, 0},
		} {
			b := newBoth(t, wait, 2)
			if !b.came(t, 30, 10) || !b.came(t, 10, 10) {
				t.Fatal("two pieces")
			}
			ok := b.came(t, x.far, x.many)
			want := blocks(wait, x.want...)
			if x.want == nil {
				want = blocks(wait, 10, 20, 30, 40)
			}
			if ok != (x.want != nil) || !slices.Equal(b.board.Blocks(), want) || b.board.Wait() != wait+x.up {
				t.Errorf("%v: %v, %d, %v", b.told, ok, b.board.Wait(), b.board.Blocks())
			}
		}
	}
}

// Where pieces are joined, or taken away, there is room for others.
func TestRoom(t *testing.T) {
	x := filled(t, last-20, 64, 64)
	at := x.Wait()
	if x.Came(at+1000, 1) || !x.Came(at+2, 1) || !x.Came(at+1000, 1) || x.Came(at+2000, 1) {
		t.Error("room for one, where two are joined", x.Blocks())
	}
	if !x.Came(at, 1) || x.Wait() != at+4 || !x.Came(at+2000, 1) || x.Came(at+3000, 1) {
		t.Error("room for one, where one is taken away", x.Wait(), x.Blocks())
	}
	if !x.Came(at+4, 124) || x.Wait() != at+128 || len(x.Blocks()) != 2 {
		t.Error("all but two are taken away", x.Wait(), x.Blocks())
	}
	for i := range uint32(62) {
		if !x.Came(at+3000+2*i, 1) {
			t.Error("no room for more", i)
		}
	}
	if x.Came(at+9000, 1) {
		t.Error("one more than may be")
	}
}

// Each board of few numbers: whatever comes then.
func TestEachBoard(t *testing.T) {
	const far = 6
	for _, wait := range []uint32{0, half - 4, last - 4} {
		for most := 1; most <= 3; most++ {
			for bits := range 1 << far {
				for from := int64(-3); from <= far+2; from++ {
					for many := range 5 {
						b := newBoth(t, wait, most)
						for i := range int64(far) {
							if bits>>i&1 == 1 {
								b.came(t, i+1, 1)
							}
						}
						b.came(t, from, many)
						b.came(t, from-1, 2)
					}
				}
			}
		}
	}
}

func TestDrawn(t *testing.T) {
	r := rand.New(rand.NewSource(4))
	were := map[bool]int{}
	for range 300 {
		b := newBoth(t, bases[r.Intn(len(bases))]-uint32(r.Intn(40)), 1+r.Intn(6))
		wide := []int{6, 20, 200}[r.Intn(3)]
		for range 60 {
			from, many := b.slow.wait+int64(r.Intn(wide))-2, r.Intn(5)
			switch r.Intn(20) {
			case 0:
				from, many = b.slow.wait+[]int64{window - 2, -window, half - 1, -half}[r.Intn(4)]+int64(r.Intn(5))-2, 1+r.Intn(3)
			case 1:
				from, many = from-int64(r.Intn(1000)), r.Intn(1030)
			case 2:
				from = b.slow.wait
			}
			were[b.came(t, from, many)]++
		}
	}
	if were[true] < 1000 || were[false] < 1000 {
		t.Error(were)
	}
}

// A board goes round, in order and out of order: what is waited for is always the first number that hasn't come.
func TestRound(t *testing.T) {
	for _, wait := range []uint32{last - 5000, half - 5000} {
		x := sack.New(wait, 4)
		for range 10 {
			at := x.Wait()
			if !x.Came(at+1024, 1024) || !x.Came(at+3072, 1024) || x.Wait() != at || !x.Came(at+2048, 1024) || len(x.Blocks()) != 1 || !x.Came(at, 1024) || x.Wait() != at+4096 || len(x.Blocks()) != 0 {
				t.Fatalf("from %d on: %d, %v", at, x.Wait(), x.Blocks())
			}
		}
		if x.Wait() != wait+40960 {
			t.Error(x.Wait())
		}
	}
}

// P1, P2

// Each call takes any argument, ends, turns nothing that was handed in, and answers the same again, whatever was called between.
func TestAny(t *testing.T) {
	answers := func() string {
		var out strings.Builder
		for _, wait := range bases {
			for _, n := range []int{0, 1, 2, 4, 5, 1000} {
				for _, x := range bases {
					l := slices.Repeat([]sack.Block{{From: x, To: wait}, {From: wait, To: x + 5}}, n)[:n]
					old := slices.Clone(l)
					o, ok := sack.Option(wait, l...)
					b := bytes.Repeat([]byte{byte(x), byte(x >> 24)}, n*n)
					p, is := sack.Parse(wait, api.Option{Kind: byte(9 + n/5), Body: b})
					fmt.Fprintln(&out, sack.Right(wait, l...), o, ok, p, is)
					if !slices.Equal(l, old) || !bytes.Equal(b, bytes.Repeat([]byte{byte(x), byte(x >> 24)}, n*n)) {
						t.Fatal("an argument is turned")
					}
				}
			}
			board := sack.New(wait, len(bases))
			for _, from := range bases {
				for _, many := range []int{math.MinInt, -1, 0, 1, 2, 1024, 1025, math.MaxInt} {
					o, ok := board.Say()
					fmt.Fprintln(&out, board.Came(from, many), board.Wait(), board.Blocks(), o, ok)
				}
			}
		}
		return out.String()
	}
	if answers() != answers() {
		t.Error("another answer to the same call")
	}
}

// What is answered is new memory: whoever writes into it turns no board, and no other answer; and no call turns it.
func TestAnswered(t *testing.T) {
	x := filled(t, 9, 4, 3)
	want := []sack.Block{{From: 10, To: 11}, {From: 12, To: 13}, {From: 14, To: 15}}
	one, two := x.Blocks(), x.Blocks()
	o, _ := x.Say()
	p, _ := x.Say()
	for _, l := range [][]sack.Block{one, two, x.Blocks()} {
		for _, b := range l[len(l):cap(l)] {
			if b != (sack.Block{}) {
				t.Errorf("%v behind %v", b, l)
			}
		}
	}
	clear(one)
	_ = append(one, sack.Block{From: 77, To: 78})
	clear(o.Body)
	if !slices.Equal(x.Blocks(), want) || !slices.Equal(two, want) || !bytes.Equal(p.Body, words(1, 1, 1, 1, 1, 1)) {
		t.Error("answers share their memory")
	}
	x.Came(9, 4)
	x.Came(16, 1)
	if !slices.Equal(two, want) || !bytes.Equal(p.Body, words(1, 1, 1, 1, 1, 1)) {
		t.Error("an answer changes")
	}
	b := words(2, 2, 1, 4)
	l, _ := sack.Parse(5, api.Option{Kind: 9, Body: b})
	clear(b)
	if !slices.Equal(l, []sack.Block{{From: 7, To: 9}, {From: 10, To: 14}}) {
		t.Error("Parse shares its memory", l)
	}
}

// What lies behind a list's length isn't read.
func TestBehind(t *testing.T) {
	room := words(1, 1, 1, 1, 1, 1, 1, 1)
	for n, want := range map[int]int{0: 0, 7: 0, 8: 1, 9: 0, 15: 0, 16: 2, 31: 0} {
		if l, ok := sack.Parse(3, api.Option{Kind: 9, Body: room[:n]}); len(l) != want || ok != (want > 0) {
			t.Errorf("%d bytes: %v, %v", n, l, ok)
		}
	}
	l := blocks(3, 1, 2, 2, 3, 9, 9)
	if o, ok := sack.Option(3, l[:1]...); !ok || !bytes.Equal(o.Body, words(1, 1)) {
		t.Error(o, ok)
	}
	if o, ok := sack.Option(3, l[:0]...); ok || len(o.Body) != 0 {
		t.Error(o, ok)
	}
}

// A board's answers depend on the calls made of it alone; to ask turns nothing.
func TestAlone(t *testing.T) {
	one, two := sack.New(1, 2), sack.New(1, 2)
	one.Came(3, 2)
	two.Came(1, 9)
	for range 2 {
		o, ok := one.Say()
		if one.Wait() != 1 || !slices.Equal(one.Blocks(), []sack.Block{{From: 3, To: 5}}) || !ok || !bytes.Equal(o.Body, words(2, 2)) {
			t.Error(one.Wait(), one.Blocks(), o)
		}
	}
	if two.Wait() != 10 || len(two.Blocks()) != 0 {
		t.Error(two.Wait(), two.Blocks())
	}
}
