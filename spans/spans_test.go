package spans_test

import (
	"fmt"
	"math"
	"math/rand"
	"slices"
	"testing"

	"brougham/api"
	"brougham/spans"
)

const greatest = math.MaxUint64

// anyMost: how many pieces New may be asked for.
var anyMost = []int{math.MinInt, math.MinInt + 1, -api.MaxSpans, -2, -1, 0, 1, 2, 3, 9, api.MaxSpans - 1, api.MaxSpans, api.MaxSpans + 1, 2 * api.MaxSpans, math.MaxInt32, math.MaxInt - 1, math.MaxInt}

// anyNumbers: numbers that a call may be given, whatever the set.
var anyNumbers = []uint64{0, 1, 2, 3, 1<<31 - 1, 1 << 31, 1<<32 - 1, 1 << 32, 1<<62 - 1, 1 << 62, 1<<63 - 1, 1 << 63, 1<<63 + 1, greatest - 2, greatest - 1, greatest}

// bases: from where on the numbers of a slow set stand: the last one's last bound is the greatest number of all.
func bases(many int) []uint64 {
	return []uint64{0, 1, 1<<32 - 3, 1<<63 - 3, greatest - uint64(many)}
}

// slow is a set of few numbers, from a base on, each of which is there or isn't.
type slow struct {
	most  int
	base  uint64
	there []bool
}

func (s *slow) many() uint64 { return uint64(len(s.there)) }

func (s *slow) has(x uint64) bool { return x >= s.base && x-s.base < s.many() && s.there[x-s.base] }

// pieces: those of the numbers from one on, below another one, that are there, or that aren't.
func (s *slow) pieces(from, to uint64, there bool) []spans.Span {
	var l []spans.Span
	for x := from; x < to; x++ {
		if s.has(x) != there {
			continue
		}
		if n := len(l); n > 0 && l[n-1].To == x {
			l[n-1].To = x + 1
		} else {
			l = append(l, spans.Span{From: x, To: x + 1})
		}
	}
	return l
}

func (s *slow) list() []spans.Span { return s.pieces(s.base, s.base+s.many(), true) }

func (s *slow) add(from, to uint64) bool {
	old := slices.Clone(s.there)
	for x := from; x < to; x++ {
		s.there[x-s.base] = true
	}
	if len(s.list()) > s.most {
		s.there = old
		return false
	}
	return true
}

func (s *slow) cut(below uint64) {
	for x := s.base; x < below; x++ {
		s.there[x-s.base] = false
	}
}

func (s *slow) run(from uint64) uint64 {
	for s.has(from) {
		from++
	}
	return from
}

// both is a set, the slow one to which the same was done, and what was done.
type both struct {
	set  *spans.Set
	slow slow
	told []string
}

func newBoth(t *testing.T, most int, base uint64, many int) *both {
	t.Helper()
	s := spans.New(most)
	if s == nil {
		t.Fatalf("New(%d): nil", most)
	}
	return &both{set: s, slow: slow{most: most, base: base, there: make([]bool, many)}, told: []string{fmt.Sprintf("New(%d)", most)}}
}

func (b *both) same(t *testing.T, call string, got, want any) {
	t.Helper()
	if one, two := fmt.Sprint(got), fmt.Sprint(want); one != two {
		t.Fatalf("%v: %s: %s, not %s", b.told, call, one, two)
	}
}

func (b *both) add(t *testing.T, from, to uint64) {
	t.Helper()
	call := fmt.Sprintf("Add(%d, %d)", from, to)
	got, want := b.set.Add(from, to), b.slow.add(from, to)
	b.same(t, call, got, want)
	b.told = append(b.told, call)
	b.same(t, "List", b.set.List(), b.slow.list())
}

func (b *both) cut(t *testing.T, below uint64) {
	t.Helper()
	b.set.Cut(below)
	b.slow.cut(below)
	b.told = append(b.told, fmt.Sprintf("Cut(%d)", below))
	b.same(t, "List", b.set.List(), b.slow.list())
}

// ask: are all that a set tells the same?
func (b *both) ask(t *testing.T) {
	t.Helper()
	first, end := b.slow.base, b.slow.base+b.slow.many()
	list, many := b.slow.list(), uint64(0)
	for _, p := range list {
		many += p.To - p.From
	}
	b.same(t, "List", b.set.List(), list)
	b.same(t, "Many", b.set.Many(), many)
	for i := range b.slow.many() + 1 {
		x := first + i
		b.same(t, fmt.Sprintf("Has(%d)", x), b.set.Has(x), b.slow.has(x))
		b.same(t, fmt.Sprintf("Run(%d)", x), b.set.Run(x), b.slow.run(x))
		for j := range b.slow.many() + 1 {
			y := first + j
			gaps := b.slow.pieces(x, y, false)
			b.same(t, fmt.Sprintf("Covers(%d, %d)", x, y), b.set.Covers(x, y), len(gaps) == 0)
			b.same(t, fmt.Sprintf("Gaps(%d, %d)", x, y), b.set.Gaps(x, y), gaps)
		}
	}
	for _, x := range []uint64{0, first - 1, end, end + 1, greatest} {
		if x < first || x >= end {
			b.same(t, fmt.Sprintf("Has(%d)", x), b.set.Has(x), false)
			b.same(t, fmt.Sprintf("Run(%d)", x), b.set.Run(x), x)
		}
	}
}

// subset: a set of which those numbers are there whose bits are 1.
func subset(t *testing.T, most int, base uint64, many, bits int) *both {
	t.Helper()
	b := newBoth(t, most, base, many)
	for i := range many {
		if bits>>i&1 == 1 {
			b.add(t, base+uint64(i), base+uint64(i)+1)
		}
	}
	return b
}

// filled: a set with so many pieces of one number each, a number between them: 10, 12, ..
func filled(t *testing.T, most, pieces int) *spans.Set {
	t.Helper()
	s := spans.New(most)
	for i := range uint64(pieces) {
		if !s.Add(10+2*i, 11+2*i) {
			t.Fatalf("New(%d): piece %d is too many", most, i)
		}
	}
	return s
}

func wantList(t *testing.T, s *spans.Set, want ...spans.Span) {
	t.Helper()
	if got := s.List(); !slices.Equal(got, want) {
		t.Errorf("List: %v, not %v", got, want)
	}
}

// P6.1

func TestNew(t *testing.T) {
	for _, most := range anyMost {
		s := spans.New(most)
		if len(s.List()) != 0 || s.Many() != 0 || s.Has(0) || s.Run(7) != 7 || s.Covers(0, 1) || !slices.Equal(s.Gaps(0, greatest), []spans.Span{{From: 0, To: greatest}}) {
			t.Errorf("New(%d): %v", most, s.List())
		}
	}
}

// As many pieces as may be, and not one more.
func TestMost(t *testing.T) {
	for _, most := range anyMost {
		fit := min(max(most, 1), 64)
		s := filled(t, most, fit)
		old := s.List()
		for _, x := range []spans.Span{{From: 0, To: 1}, {From: 0, To: 9}, {From: 11 + 2*uint64(fit), To: 12 + 2*uint64(fit)}, {From: 1000, To: greatest}, {From: greatest - 1, To: greatest}} {
			if s.Add(x.From, x.To) || !slices.Equal(s.List(), old) {
				t.Errorf("New(%d), %d pieces: Add%v: %v", most, fit, x, s.List())
			}
		}
		if !s.Add(5, 5) || !s.Add(7, 3) || !slices.Equal(s.List(), old) {
			t.Errorf("New(%d), %d pieces: Add of none: %v", most, fit, s.List())
		}
		if !s.Add(9, 10) || !s.Add(10, 11) || len(s.List()) != fit || s.Many() != uint64(fit)+1 {
			t.Errorf("New(%d), %d pieces: Add of what touches: %v", most, fit, s.List())
		}
	}
}

// A full set: what is joined or touches is taken; what stands between pieces, or beside them, isn't.
func TestAddFull(t *testing.T) {
	for _, x := range []struct {
		from, to uint64
		ok       bool
		want     []spans.Span
	}{
		{0, 9, false, nil}, {0, 10, true, []spans.Span{{From: 0, To: 20}, {From: 30, To: 40}}}, {0, 11, true, []spans.Span{{From: 0, To: 20}, {From: 30, To: 40}}},
		{10, 20, true, []spans.Span{{From: 10, To: 20}, {From: 30, To: 40}}}, {12, 15, true, []spans.Span{{From: 10, To: 20}, {From: 30, To: 40}}},
		{19, 25, true, []spans.Span{{From: 10, To: 25}, {From: 30, To: 40}}}, {20, 25, true, []spans.Span{{From: 10, To: 25}, {From: 30, To: 40}}},
		{20, 29, true, []spans.Span{{From: 10, To: 29}, {From: 30, To: 40}}}, {20, 30, true, []spans.Span{{From: 10, To: 40}}}, {5, 35, true, []spans.Span{{From: 5, To: 40}}}, {0, greatest, true, []spans.Span{{From: 0, To: greatest}}},
		{21, 29, false, nil}, {21, 22, false, nil}, {28, 29, false, nil}, {21, 30, true, []spans.Span{{From: 10, To: 20}, {From: 21, To: 40}}},
		{40, 41, true, []spans.Span{{From: 10, To: 20}, {From: 30, To: 41}}}, {41, 42, false, nil}, {41, greatest, false, nil}, {25, 25, true, nil}, {25, 3, true, nil}, {20, 20, true, nil}, {30, 20, true, nil},
	} {
		s := spans.New(2)
		if !s.Add(30, 40) || !s.Add(10, 20) {
			t.Fatal("Add of two")
		}
		if ok := s.Add(x.from, x.to); ok != x.ok {
			t.Errorf("Add(%d, %d): %v", x.from, x.to, ok)
		}
		if x.want == nil {
			x.want = []spans.Span{{From: 10, To: 20}, {From: 30, To: 40}}
		}
		if got := s.List(); !slices.Equal(got, x.want) {
			t.Errorf("Add(%d, %d): %v, not %v", x.from, x.to, got, x.want)
		}
	}
}

// Where pieces are joined, there is room for others.
func TestRoom(t *testing.T) {
	s := filled(t, 64, 64)
	if s.Add(1000, 1001) || !s.Add(11, 12) || !s.Add(1000, 1001) || s.Add(2000, 2001) {
		t.Error("room for one")
	}
	if !s.Add(10, 10+2*64) || len(s.List()) != 2 {
		t.Errorf("joined: %v", s.List())
	}
	for i := range uint64(62) {
		if !s.Add(2000+3*i, 2001+3*i) {
			t.Errorf("no room for %d more", i)
		}
	}
	if s.Add(5000, 5001) {
		t.Error("one more than may be")
	}
	s.Cut(11)
	if s.Add(5000, 5001) {
		t.Error("a piece that is cut takes its room")
	}
	s.Cut(1000)
	if !s.Add(5000, 5001) || s.Add(6000, 6001) {
		t.Error("a piece that is gone leaves room")
	}
}

func TestCut(t *testing.T) {
	for _, x := range []struct {
		below uint64
		want  []spans.Span
	}{
		{0, []spans.Span{{From: 10, To: 20}, {From: 30, To: 40}}}, {9, []spans.Span{{From: 10, To: 20}, {From: 30, To: 40}}}, {10, []spans.Span{{From: 10, To: 20}, {From: 30, To: 40}}},
		{11, []spans.Span{{From: 11, To: 20}, {From: 30, To: 40}}}, {19, []spans.Span{{From: 19, To: 20}, {From: 30, To: 40}}}, {20, []spans.Span{{From: 30, To: 40}}}, {21, []spans.Span{{From: 30, To: 40}}},
		{30, []spans.Span{{From: 30, To: 40}}}, {31, []spans.Span{{From: 31, To: 40}}}, {39, []spans.Span{{From: 39, To: 40}}}, {40, nil}, {41, nil}, {greatest, nil},
	} {
		s := spans.New(2)
		s.Add(10, 20)
		s.Add(30, 40)
		s.Cut(x.below)
		wantList(t, s, x.want...)
		s.Cut(x.below)
		wantList(t, s, x.want...)
	}
}

// What was cut may come again.
func TestCutAdd(t *testing.T) {
	s := spans.New(1)
	s.Add(10, 20)
	s.Cut(15)
	if !s.Add(12, 15) || s.Add(5, 11) {
		t.Error(s.List())
	}
	wantList(t, s, spans.Span{From: 12, To: 20})
	s.Cut(20)
	if !s.Add(0, 1) {
		t.Error(s.List())
	}
	wantList(t, s, spans.Span{From: 0, To: 1})
}

// P6.2

func TestExample(t *testing.T) {
	s := spans.New(9)
	if !s.Add(1, 3) || !s.Add(5, 6) || !s.Add(3, 4) {
		t.Error("Add")
	}
	wantList(t, s, spans.Span{From: 1, To: 4}, spans.Span{From: 5, To: 6})
	if g := s.Gaps(0, 7); !slices.Equal(g, []spans.Span{{From: 0, To: 1}, {From: 4, To: 5}, {From: 6, To: 7}}) {
		t.Error(g)
	}
}

// The last number of all is in no piece, but bounds them.
func TestGreatest(t *testing.T) {
	s := spans.New(2)
	if !s.Add(greatest, greatest) || s.Many() != 0 || !s.Add(greatest-1, greatest) || s.Many() != 1 || !s.Add(0, 1) || s.Add(5, 6) || !s.Add(0, greatest) {
		t.Error(s.List())
	}
	wantList(t, s, spans.Span{From: 0, To: greatest})
	if s.Many() != greatest || !s.Has(0) || !s.Has(greatest-1) || s.Has(greatest) || s.Run(0) != greatest || s.Run(greatest) != greatest || !s.Covers(0, greatest) || !s.Covers(greatest, greatest) || len(s.Gaps(0, greatest)) != 0 {
		t.Error(s.Many())
	}
	s.Cut(greatest - 1)
	wantList(t, s, spans.Span{From: greatest - 1, To: greatest})
	s.Cut(greatest)
	wantList(t, s)
}

// Of no numbers: all are there, and none isn't.
func TestOfNone(t *testing.T) {
	s := spans.New(3)
	s.Add(10, 20)
	s.Add(30, 40)
	for _, x := range append([]uint64{9, 10, 11, 19, 20, 21, 29, 30, 39, 40, 41}, anyNumbers...) {
		for _, y := range append([]uint64{9, 10, 11, 19, 20, 21, 29, 30, 39, 40, 41}, anyNumbers...) {
			if x >= y && (!s.Covers(x, y) || len(s.Gaps(x, y)) != 0) {
				t.Errorf("%d, %d: %v, %v", x, y, s.Covers(x, y), s.Gaps(x, y))
			}
		}
	}
}

// Of a full set each gap is told: one more than there are pieces.
func TestGapsFull(t *testing.T) {
	g := filled(t, 64, 64).Gaps(0, greatest)
	if len(g) != 65 || g[0] != (spans.Span{From: 0, To: 10}) || g[1] != (spans.Span{From: 11, To: 12}) || g[63] != (spans.Span{From: 135, To: 136}) || g[64] != (spans.Span{From: 137, To: greatest}) {
		t.Errorf("%d: %v", len(g), g)
	}
}

// Each set of few numbers: each Add, each Cut, and all that is told behind it.
func TestEachSet(t *testing.T) {
	const many = 6
	for most := 1; most <= 3; most++ {
		for bits := range 1 << many {
			for _, base := range bases(many) {
				subset(t, most, base, many, bits).ask(t)
			}
			for from := range uint64(many + 1) {
				for to := range uint64(many + 1) {
					b := subset(t, most, 0, many, bits)
					b.add(t, from, to)
					b.ask(t)
				}
				b := subset(t, most, 0, many, bits)
				b.cut(t, from)
				b.ask(t)
			}
		}
	}
}

func TestDrawn(t *testing.T) {
	r := rand.New(rand.NewSource(1))
	for range 60 {
		many := []int{8, 30, 160}[r.Intn(3)]
		b := newBoth(t, 1+r.Intn(1+many/4), bases(many)[r.Intn(5)], many)
		for range 60 {
			from := r.Intn(many + 1)
			to := min(from+r.Intn(6)-1, many)
			if r.Intn(20) == 0 {
				to = r.Intn(many + 1)
			}
			at := func(i int) uint64 { return b.slow.base + uint64(max(i, 0)) }
			if r.Intn(15) == 0 {
				b.cut(t, at(from/2))
			} else {
				b.add(t, at(from), at(to))
			}
		}
		b.ask(t)
	}
}

// P1, P2

// Each call takes any number: what is told of a set fits together.
func TestAny(t *testing.T) {
	for _, x := range anyNumbers {
		for _, y := range anyNumbers {
			s := spans.New(3)
			s.Add(2, 1<<32)
			s.Add(1<<63, 1<<63+1)
			if ok := s.Add(x, y); !ok || !s.Covers(x, y) || len(s.Gaps(x, y)) != 0 || x < y && (!s.Has(x) || !s.Has(y-1) || s.Run(x) < y) {
				t.Errorf("Add(%d, %d): %v, %v", x, y, ok, s.List())
			}
			for _, z := range anyNumbers {
				s.Cut(z)
				if l := s.List(); s.Has(z) != (s.Run(z) != z) || len(l) > 0 && l[0].From < z || z > 0 && s.Has(z-1) {
					t.Errorf("Cut(%d): %v", z, l)
				}
			}
		}
	}
}

// What is answered is new memory: whoever writes into it turns no set, and no other answer; and no call turns it.
func TestAnswered(t *testing.T) {
	s := spans.New(4)
	s.Add(1, 3)
	s.Add(5, 6)
	one, two := s.List(), s.List()
	gap, pag := s.Gaps(0, 9), s.Gaps(0, 9)
	clear(one[:cap(one)])
	clear(gap[:cap(gap)])
	want := []spans.Span{{From: 1, To: 3}, {From: 5, To: 6}}
	wantList(t, s, want...)
	if !slices.Equal(two, want) || len(pag) != 3 || pag[1] != (spans.Span{From: 3, To: 5}) || !slices.Equal(s.Gaps(0, 9), pag) {
		t.Error("answers share their memory")
	}
	_ = append(two, spans.Span{From: 7, To: 8})
	s.Add(0, 9)
	s.Cut(4)
	if !slices.Equal(two, want) || pag[1] != (spans.Span{From: 3, To: 5}) {
		t.Error("an answer changes")
	}
	wantList(t, s, spans.Span{From: 4, To: 9})
}

// What lies behind a list's length isn't handed out.
func TestBehind(t *testing.T) {
	s := filled(t, 64, 64)
	s.Cut(135)
	for _, l := range [][]spans.Span{s.List(), s.Gaps(0, greatest)} {
		for _, p := range l[len(l):cap(l)] {
			if p != (spans.Span{}) {
				t.Errorf("%v behind %v", p, l)
			}
		}
	}
}

// A set's answers depend on the calls made of it alone; to ask turns nothing.
func TestAlone(t *testing.T) {
	one, two := spans.New(2), spans.New(2)
	one.Add(1, 3)
	two.Add(5, 6)
	two.Cut(6)
	for range 2 {
		if l := one.List(); len(l) != 1 || one.Many() != 2 || one.Run(2) != 3 || !one.Has(1) || !one.Covers(1, 3) || len(one.Gaps(0, 9)) != 2 {
			t.Error(l)
		}
	}
	wantList(t, two)
}
