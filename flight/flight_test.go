package flight_test

import (
	"math"
	"math/rand"
	"slices"
	"testing"

	"brougham/flight"
)

const (
	half = 1 << 31
	last = math.MaxUint32
	top  = math.MaxUint64
)

type chunk = flight.Chunk

// oddMosts: how many pieces there may be, by what New is told.
var oddMosts = map[int]int{
	math.MinInt: 1, -64: 1, -1: 1, 0: 1, 1: 1, 2: 2, 3: 3, 7: 7, 8: 8, 9: 9, 31: 31, 32: 32, 33: 33,
	62: 62, 63: 63, 64: 64, 65: 64, 66: 64, 128: 64, 256: 64, 1 << 32: 64, 1<<32 + 1: 64, math.MaxInt: 64,
}

// oddInts: numbers at the bounds.
var oddInts = []int{math.MinInt, math.MinInt + 1, -1 << 32, -half, -2, -1, 0, 1, 2, 3, 64, 4095, 4096, 4097, half - 1, half, 1 << 32, 1<<32 + 1, math.MaxInt - 1, math.MaxInt}

// slow is pieces under way by the words of the chapter, each of which is looked over by itself.
type slow struct {
	most int
	l    []chunk
}

func newSlow(most int) *slow {
	if most < 1 {
		most = 1
	}
	if most > 64 {
		most = 64
	}
	return &slow{most: most}
}

// steps: so many steps, forth and round, lead from a number to another one.
func steps(from, to uint32) int64 {
	d := int64(to) - int64(from)
	if d < 0 {
		d += 1 << 32
	}
	return d
}

// isAhead: is the number a ahead of b? Of numbers half the way round from one another each is.
func isAhead(a, b uint32) bool { return a != b && steps(b, a) <= half }

// behind: the number behind a piece.
func behind(c chunk) uint64 {
	to := c.From
	if c.Len >= 1 {
		to += uint64(c.Len)
	}
	if c.Fin {
		to += 1
	}
	return to
}

func (s *slow) add(c chunk) bool {
	if len(s.l) == s.most {
		return false
	}
	s.l = append(s.l, c)
	return true
}

func (s *slow) acked(to uint64) []chunk {
	var gone []chunk
	for i := 0; i < len(s.l); {
		if behind(s.l[i]) > to {
			i++
			continue
		}
		gone = append(gone, s.l[i])
		s.l = slices.Delete(s.l, i, i+1)
	}
	return gone
}

func (s *slow) word(flow int, ack uint32) []chunk {
	var l []chunk
	for i, c := range s.l {
		if c.Flow != flow || c.Lost || c.Came || c.Len < 1 || isAhead(c.End, ack) {
			continue
		}
		s.l[i].Came = true
		l = append(l, s.l[i])
	}
	return l
}

func (s *slow) late(flow, now, wait int) []chunk {
	var l []chunk
	for i, c := range s.l {
		if c.Flow != flow || c.Lost || c.Came || c.Sent > now-wait {
			continue
		}
		s.l[i].Lost = true
		l = append(l, s.l[i])
	}
	return l
}

func (s *slow) gone(flow int) []chunk {
	var l []chunk
	for i, c := range s.l {
		if c.Flow != flow || c.Lost {
			continue
		}
		s.l[i].Lost = true
		l = append(l, s.l[i])
	}
	return l
}

func (s *slow) first() (chunk, bool) {
	if len(s.l) == 0 {
		return chunk{}, false
	}
	return s.l[0], true
}

func (s *slow) again() (chunk, bool) {
	for _, c := range s.l {
		if c.Lost {
			return c, true
		}
	}
	return chunk{}, false
}

func (s *slow) resent(from uint64, fin bool, flow int, end uint32, now int) bool {
	for i, c := range s.l {
		if c.From != from || c.Fin != fin {
			continue
		}
		tries := c.Tries
		if tries < 4096 {
			tries++
		} else {
			tries = 4096
		}
		s.l[i] = chunk{From: c.From, Len: c.Len, Fin: c.Fin, Flow: flow, End: end, Sent: now, Tries: tries}
		return true
	}
	return false
}

// same: does a list say what it is to say, when it is looked at?
func same(t *testing.T, x *flight.List, s *slow) {
	t.Helper()
	if got := x.All(); !slices.Equal(got, s.l) {
		t.Fatalf("All: %+v, not %+v", got, s.l)
	}
	if x.Len() != len(s.l) || x.Free() != s.most-len(s.l) {
		t.Fatalf("Len, Free: %d, %d, not %d of %d", x.Len(), x.Free(), len(s.l), s.most)
	}
	got, ok := x.First()
	if want, is := s.first(); got != want || ok != is {
		t.Fatalf("First: %+v, %v, not %+v, %v", got, ok, want, is)
	}
	got, ok = x.Again()
	if want, is := s.again(); got != want || ok != is {
		t.Fatalf("Again: %+v, %v, not %+v, %v", got, ok, want, is)
	}
}

// add: a piece is added to both.
func add(t *testing.T, x *flight.List, s *slow, c chunk) {
	t.Helper()
	if got, want := x.Add(c), s.add(c); got != want {
		t.Fatalf("Add(%+v): %v, not %v", c, got, want)
	}
	same(t, x, s)
}

// turned: what both say was turned.
func turned(t *testing.T, x *flight.List, s *slow, got, want []chunk) {
	t.Helper()
	if !slices.Equal(got, want) {
		t.Fatalf("%+v, not %+v", got, want)
	}
	same(t, x, s)
}

// resent: a piece of both is sent once more.
func resent(t *testing.T, x *flight.List, s *slow, from uint64, fin bool, flow int, end uint32, now int) {
	t.Helper()
	if got, want := x.Resent(from, fin, flow, end, now), s.resent(from, fin, flow, end, now); got != want {
		t.Fatalf("Resent(%d, %v, %d, %d, %d): %v, not %v", from, fin, flow, end, now, got, want)
	}
	same(t, x, s)
}

// of: a list of these pieces, and the slow one.
func of(t *testing.T, l ...chunk) (*flight.List, *slow) {
	t.Helper()
	x, s := flight.New(64), newSlow(64)
	for _, c := range l {
		add(t, x, s, c)
	}
	return x, s
}

// kinds: pieces of each kind there is: with bytes or none, an end or none, word of them or none, lost or not, on three paths.
func kinds() []chunk {
	var l []chunk
	for _, long := range []int{5, 0, -3} {
		for bits := range 8 {
			for flow := range 3 {
				n := len(l)
				l = append(l, chunk{From: uint64(10 * n), Len: long, Fin: bits&1 > 0, Flow: flow, End: 100, Sent: 50, Tries: 1 + n%3, Came: bits&2 > 0, Lost: bits&4 > 0})
			}
		}
	}
	return l
}

// inLists: each of these pieces in a list with others, as there may be no more than 64 of them in one.
func inLists(t *testing.T, l []chunk, do func(*flight.List, *slow)) {
	t.Helper()
	for part := range slices.Chunk(l, 60) {
		do(of(t, part...))
	}
}

func TestExample(t *testing.T) {
	x := flight.New(4)
	c := chunk{Len: 5, Flow: 1, End: 10, Sent: 3}
	if !x.Add(c) {
		t.Error("Add")
	}
	c.Lost = true
	if l := x.Late(1, 7, 4); !slices.Equal(l, []chunk{c}) {
		t.Error(l)
	}
	if got, ok := x.Again(); got != c || !ok {
		t.Error(got, ok)
	}
}

// The words: the number behind a piece.
func TestTo(t *testing.T) {
	for _, x := range []struct {
		from uint64
		long int
		fin  bool
		want uint64
	}{
		{0, 0, false, 0}, {0, 0, true, 1}, {0, 1, false, 1}, {0, 1, true, 2}, {3, 2, true, 6}, {3, 2, false, 5}, {7, 1024, false, 1031}, {7, 1024, true, 1032},
		{7, -1, false, 7}, {7, -1, true, 8}, {7, -1024, true, 8}, {7, math.MinInt, false, 7}, {7, math.MinInt, true, 8},
		{0, math.MaxInt, false, math.MaxInt}, {0, math.MaxInt, true, math.MaxInt + 1}, {1 << 62, 1024, true, 1<<62 + 1025}, {1 << 63, math.MaxInt, false, top},
		{top, 0, false, top}, {top, -9, false, top}, {top - 1, 0, true, top}, {top - 1, 1, false, top}, {last, 1, false, 1 << 32}, {last - 1, 1, true, 1 << 32},
	} {
		c := chunk{From: x.from, Len: x.long, Fin: x.fin}
		if got := c.To(); got != x.want {
			t.Errorf("%d, %d bytes, end %v: %d, not %d", x.from, x.long, x.fin, got, x.want)
		}
		c = chunk{From: x.from, Len: x.long, Fin: x.fin, Flow: 3, End: 9, Sent: 8, Tries: 7, Came: true, Lost: true}
		if got := c.To(); got != x.want {
			t.Errorf("%+v: %d, not %d", c, got, x.want)
		}
	}
}

// P16.1

func TestEmpty(t *testing.T) {
	for most := range oddMosts {
		x, s := flight.New(most), newSlow(most)
		same(t, x, s)
		for _, n := range oddInts {
			for _, l := range [][]chunk{x.All(), x.Acked(uint64(n)), x.Word(n, uint32(n)), x.Late(n, n, n), x.Gone(n)} {
				if len(l) != 0 {
					t.Error(most, n, l)
				}
			}
			if x.Resent(uint64(n), n%2 == 0, n, uint32(n), n) {
				t.Error(most, n)
			}
		}
		same(t, x, s)
	}
}

// As many pieces as may be, and one more: it isn't let in, and nothing is turned; when one went there is room for one again.
func TestMost(t *testing.T) {
	for most, want := range oddMosts {
		x, s := flight.New(most), newSlow(most)
		for i := range want {
			if x.Len() != i || x.Free() != want-i || !x.Add(chunk{From: uint64(100 - i), Len: 1, Flow: i}) {
				t.Fatalf("New(%d): piece %d isn't let in", most, i)
			}
			s.add(chunk{From: uint64(100 - i), Len: 1, Flow: i})
			same(t, x, s)
		}
		for _, c := range []chunk{{}, {From: 100, Len: 1}, {From: 900, Fin: true}, {Lost: true}, {Len: -1, Came: true}} {
			if x.Add(c) || x.Free() != 0 || x.Len() != want {
				t.Fatalf("New(%d): one more", most)
			}
			same(t, x, s)
		}
		turned(t, x, s, x.Gone(want-1), s.gone(want-1)) // a lost one still takes room
		add(t, x, s, chunk{})
		turned(t, x, s, x.Acked(uint64(102-want)), s.acked(uint64(102-want)))
		add(t, x, s, chunk{From: 7, Len: 3})
		add(t, x, s, chunk{From: 8, Len: 3})
		if x.Len() != want || x.Free() != 0 {
			t.Fatalf("New(%d): %d pieces, then", most, x.Len())
		}
	}
}

// Pieces stand as they were added, not by their numbers; just as they were handed in, be there two of the same.
func TestAsAdded(t *testing.T) {
	l := []chunk{
		{From: 50, Len: 5, Flow: 1, End: 10, Sent: 3, Tries: 1},
		{From: 40, Len: 5, Flow: 2, End: 9, Sent: 4, Tries: 2, Came: true},
		{From: 50, Len: 5, Flow: 1, End: 10, Sent: 3, Tries: 1},
		{From: 60, Fin: true, Flow: -1, Tries: 9999},
		{From: top, Len: math.MinInt, Flow: math.MaxInt, End: last, Sent: -1, Tries: -1, Came: true, Lost: true},
		{Len: math.MaxInt, Flow: math.MinInt, Sent: math.MaxInt, Tries: math.MinInt},
		{},
		{From: 40, Len: 4, Lost: true},
	}
	x := flight.New(64)
	for i, c := range l {
		if !x.Add(c) || !slices.Equal(x.All(), l[:i+1]) {
			t.Fatal(i, x.All())
		}
		if first, ok := x.First(); first != l[0] || !ok {
			t.Fatal(i, first, ok)
		}
		again, ok := x.Again()
		if i < 4 && (again != chunk{} || ok) || i >= 4 && (again != l[4] || !ok) {
			t.Fatal(i, again, ok)
		}
	}
}

// First and Again go on as pieces go and are sent once more.
func TestFirstAgain(t *testing.T) {
	x, s := of(t, chunk{From: 0, Len: 5, Flow: 1, Lost: true}, chunk{From: 5, Len: 5, Flow: 2}, chunk{From: 10, Len: 5, Flow: 1, Lost: true}, chunk{From: 15, Len: 5, Flow: 2})
	lost := func(from uint64, want bool) {
		t.Helper()
		if c, ok := x.Again(); c.From != from || ok != want {
			t.Fatal(c, ok)
		}
	}
	lost(0, true)
	resent(t, x, s, 0, false, 2, 9, 9)
	lost(10, true)
	resent(t, x, s, 10, false, 2, 9, 9)
	lost(0, false)
	turned(t, x, s, x.Gone(2), s.gone(2))
	lost(0, true)
	turned(t, x, s, x.Acked(5), s.acked(5))
	lost(5, true)
	if c, ok := x.First(); c.From != 5 || !ok {
		t.Error(c, ok)
	}
	turned(t, x, s, x.Acked(20), s.acked(20))
	if c, ok := x.First(); c != (chunk{}) || ok {
		t.Error(c, ok)
	}
	lost(0, false)
}

// P16.2

// The number behind a piece, one below, one above; an end counts.
func TestAckedEdges(t *testing.T) {
	for _, c := range []chunk{
		{From: 10, Len: 5}, {From: 10, Len: 5, Fin: true}, {From: 10, Fin: true}, {From: 10}, {From: 10, Len: -5}, {From: 10, Len: -5, Fin: true}, {From: 9, Len: math.MinInt, Fin: true},
		{From: 1 << 62, Len: 1024, Fin: true}, {From: last, Len: 1}, {From: last - 1, Len: 1, Fin: true}, {From: 1 << 63, Len: math.MaxInt - 1}, {From: top - 7, Len: 5, Fin: true}, {From: 10, Len: 5, Came: true}, {From: 10, Len: 5, Lost: true},
	} {
		to := behind(c)
		for _, at := range []uint64{0, c.From - 1, to - 1, to, to + 1, to + 1<<32, top} {
			x, s := of(t, chunk{From: top - 1, Len: 1}, c)
			l := x.Acked(at)
			if (at >= to) != slices.Contains(l, c) || (at >= to) == slices.Contains(x.All(), c) {
				t.Fatalf("%+v, Acked(%d): %+v", c, at, l)
			}
			turned(t, x, s, l, s.acked(at))
		}
	}
}

// Of pieces in any order those that end there or ahead go, wherever they stand; the others stay as they were.
func TestAckedAnywhere(t *testing.T) {
	l := []chunk{{From: 20, Len: 5}, {From: 0, Len: 5, Lost: true}, {From: 0, Len: 30}, {From: 10, Len: 5, Came: true}, {From: 15, Len: 4, Fin: true}, {From: 4, Len: 1}, {From: 20, Fin: true}, {From: 0, Len: 5}}
	for to := range uint64(33) {
		x, s := of(t, l...)
		turned(t, x, s, x.Acked(to), s.acked(to))
		turned(t, x, s, x.Acked(to), nil) // once more: none
		add(t, x, s, chunk{From: 99})     // behind those that stayed
		turned(t, x, s, x.Acked(98), s.acked(98))
		turned(t, x, s, x.Acked(99), s.acked(99))
	}
	x, _ := of(t, l...)
	if got := x.Acked(15); !slices.Equal(got, []chunk{l[1], l[3], l[5], l[7]}) || !slices.Equal(x.All(), []chunk{l[0], l[2], l[4], l[6]}) {
		t.Error(got, x.All())
	}
}

// P16.3

// A piece's End at the path's number, ahead of it and behind, at the seam and half the way round.
func TestWordEdges(t *testing.T) {
	for _, ack := range []uint32{0, 1, 50, half - 1, half, half + 1, last - 1, last} {
		for d, want := range map[uint32]bool{
			0: true, 1: false, 2: false, 1000: false, half - 1: false, half: false,
			half + 1: true, half + 2: true, last - 999: true, last - 1: true, last: true,
		} {
			c := chunk{From: 5, Len: 1, Flow: 1, End: ack + d, Sent: 7, Tries: 2}
			x, s := of(t, c)
			l := x.Word(1, ack)
			c.Came = want
			if want && !slices.Equal(l, []chunk{c}) || !want && len(l) != 0 || !slices.Equal(x.All(), []chunk{c}) {
				t.Fatalf("End %d, Word(1, %d): %+v, then %+v", c.End, ack, l, x.All())
			}
			turned(t, x, s, l, s.word(1, ack))
			turned(t, x, s, x.Word(1, ack), nil) // once more: none that hasn't come
		}
	}
}

// Those of the path alone, with bytes, not lost, and that haven't come.
func TestWordKinds(t *testing.T) {
	for flow := -1; flow < 4; flow++ {
		for _, ack := range []uint32{99, 100, 101} {
			inLists(t, kinds(), func(x *flight.List, s *slow) {
				ahead := x.All()
				l := x.Word(flow, ack)
				for i, c := range x.All() {
					may := ahead[i].Flow == flow && ahead[i].Len == 5 && !ahead[i].Lost && !ahead[i].Came && ack >= 100
					if may != slices.Contains(l, c) {
						t.Fatalf("Word(%d, %d): %+v", flow, ack, l)
					}
				}
				turned(t, x, s, l, s.word(flow, ack))
			})
		}
	}
}

// Word of a piece that is lost, or was sent on another path since, isn't word of it.
func TestWordSince(t *testing.T) {
	x, s := of(t, chunk{From: 0, Len: 5, Flow: 1, End: 10, Sent: 3}, chunk{From: 5, Len: 5, Flow: 1, End: 15, Sent: 3})
	turned(t, x, s, x.Late(1, 9, 4), s.late(1, 9, 4))
	turned(t, x, s, x.Word(1, 15), nil)
	resent(t, x, s, 0, false, 2, 77, 9)
	turned(t, x, s, x.Word(1, 15), nil)
	turned(t, x, s, x.Word(2, 76), nil)
	if l := x.Word(2, 77); len(l) != 1 || l[0].From != 0 || !l[0].Came || l[0].Flow != 2 || l[0].Sent != 9 {
		t.Error(l)
	}
}

// Wait ticks ahead of now, one less, one more; from 0 below 2^31.
func TestLateEdges(t *testing.T) {
	for _, x := range []struct {
		sent, now, wait int
		want            bool
	}{
		{3, 7, 4, true}, {3, 7, 5, false}, {3, 7, 3, true}, {3, 6, 4, false}, {4, 7, 4, false}, {2, 7, 4, true},
		{0, 0, 0, true}, {5, 5, 0, true}, {6, 5, 0, false}, {4, 5, 0, true}, {5, 5, 1, false}, {4, 5, 1, true}, {9, 0, 0, false}, {9, 0, 9, false},
		{0, half - 1, half - 1, true}, {1, half - 1, half - 1, false}, {0, half - 2, half - 1, false}, {0, half - 1, 0, true}, {half - 1, half - 1, 0, true}, {half - 1, half - 1, 1, false},
		{half - 1, 0, 0, false}, {half - 1, 0, half - 1, false}, {half - 1, half - 2, 0, false}, {half - 2, half - 1, 1, true}, {4096, 8192, 4096, true}, {4096, 8192, 4097, false},
	} {
		for _, long := range []int{5, 0, -1} {
			c := chunk{From: 5, Len: long, Fin: long < 1, Flow: 1, End: 9, Sent: x.sent, Tries: 1}
			list, s := of(t, c)
			l := list.Late(1, x.now, x.wait)
			c.Lost = x.want
			if x.want && !slices.Equal(l, []chunk{c}) || !x.want && len(l) != 0 || !slices.Equal(list.All(), []chunk{c}) {
				t.Fatalf("Sent %d, Late(1, %d, %d): %+v, then %+v", x.sent, x.now, x.wait, l, list.All())
			}
			turned(t, list, s, l, s.late(1, x.now, x.wait))
			turned(t, list, s, list.Late(1, x.now, x.wait), nil) // once more: none that isn't lost
		}
	}
}

// Those of the path alone, with bytes or none, not lost, and that haven't come.
func TestLateKinds(t *testing.T) {
	for flow := -1; flow < 4; flow++ {
		for _, now := range []int{53, 54, 55} {
			inLists(t, kinds(), func(x *flight.List, s *slow) {
				ahead := x.All()
				l := x.Late(flow, now, 4)
				for i, c := range x.All() {
					may := ahead[i].Flow == flow && !ahead[i].Lost && !ahead[i].Came && now >= 54
					if may != slices.Contains(l, c) {
						t.Fatalf("Late(%d, %d, 4): %+v", flow, now, l)
					}
				}
				turned(t, x, s, l, s.late(flow, now, 4))
			})
		}
	}
}

// Those of the path alone that aren't lost: with word of them, too, which stays.
func TestGone(t *testing.T) {
	for flow := -1; flow < 4; flow++ {
		inLists(t, kinds(), func(x *flight.List, s *slow) {
			ahead := x.All()
			l := x.Gone(flow)
			for i, c := range x.All() {
				may := ahead[i].Flow == flow && !ahead[i].Lost
				if may != slices.Contains(l, c) || c.Came != ahead[i].Came || c.Lost != (may || ahead[i].Lost) {
					t.Fatalf("Gone(%d): %+v", flow, l)
				}
			}
			turned(t, x, s, l, s.gone(flow))
			turned(t, x, s, x.Gone(flow), nil)
		})
	}
}

// P16.4

// Each kind of piece: all of how it was sent is as told, a try more; its bytes and its end stay, and so do the other pieces.
func TestResent(t *testing.T) {
	inLists(t, kinds(), func(x *flight.List, s *slow) {
		for i, c := range x.All() {
			want := chunk{From: c.From, Len: c.Len, Fin: c.Fin, Flow: -7, End: last - uint32(i), Sent: 900 + i, Tries: c.Tries + 1}
			resent(t, x, s, c.From, !c.Fin, -7, want.End, want.Sent) // none with that end
			resent(t, x, s, c.From+1, c.Fin, -7, want.End, want.Sent)
			resent(t, x, s, c.From, c.Fin, -7, want.End, want.Sent)
			if got := x.All()[i]; got != want {
				t.Fatalf("%+v, then %+v", c, got)
			}
		}
	})
}

// The first of several that begin so, whether it is lost or not; with an end and without they are others.
func TestResentFirst(t *testing.T) {
	l := []chunk{{From: 1, Len: 5}, {From: 5, Len: 5, Fin: true, Tries: 1}, {From: 5, Len: 4, Tries: 2}, {From: 5, Len: 3, Lost: true, Tries: 3}, {From: 5, Fin: true, Lost: true, Tries: 4}}
	x, s := of(t, l...)
	if !x.Resent(5, false, 3, 30, 9) || !s.resent(5, false, 3, 30, 9) {
		t.Error("Resent")
	}
	same(t, x, s)
	l[2] = chunk{From: 5, Len: 4, Flow: 3, End: 30, Sent: 9, Tries: 3}
	if got := x.All(); !slices.Equal(got, l) {
		t.Fatal(got)
	}
	if !x.Resent(5, true, 2, 31, 10) || x.Resent(1, true, 2, 31, 10) || x.Resent(6, false, 2, 31, 10) || x.Resent(top, true, 2, 31, 10) {
		t.Error("Resent")
	}
	l[1] = chunk{From: 5, Len: 5, Fin: true, Flow: 2, End: 31, Sent: 10, Tries: 2}
	if got := x.All(); !slices.Equal(got, l) {
		t.Fatal(got)
	}
}

// A try more, up to MaxTicks, whatever it was.
func TestTries(t *testing.T) {
	for tries, want := range map[int]int{
		0: 1, 1: 2, 2: 3, 4094: 4095, 4095: 4096, 4096: 4096, 4097: 4096, 9999: 4096, 1 << 32: 4096, math.MaxInt - 1: 4096, math.MaxInt: 4096,
		-1: 0, -2: -1, math.MinInt: math.MinInt + 1,
	} {
		x, s := of(t, chunk{Len: 1, Tries: tries})
		resent(t, x, s, 0, false, 1, 1, 1)
		if c, _ := x.First(); c.Tries != want {
			t.Errorf("%d tries, then %d, not %d", tries, c.Tries, want)
		}
	}
	x, s := of(t, chunk{Len: 1})
	for range 4100 {
		resent(t, x, s, 0, false, 1, 1, 1)
	}
	if c, _ := x.First(); c.Tries != 4096 {
		t.Error(c)
	}
}

// Each run of calls on a list of at most three pieces.
func TestEachRun(t *testing.T) {
	const long = 5
	calls := []func(*testing.T, *flight.List, *slow, int){
		func(t *testing.T, x *flight.List, s *slow, i int) {
			add(t, x, s, chunk{From: 5, Len: 5, Flow: 1, End: uint32(10 + i), Sent: i, Tries: 1})
		},
		func(t *testing.T, x *flight.List, s *slow, i int) {
			add(t, x, s, chunk{From: 3, Fin: true, Flow: 2, End: 12, Sent: i, Tries: 1})
		},
		func(t *testing.T, x *flight.List, s *slow, i int) { turned(t, x, s, x.Word(1, 12), s.word(1, 12)) },
		func(t *testing.T, x *flight.List, s *slow, i int) { turned(t, x, s, x.Late(2, i, 2), s.late(2, i, 2)) },
		func(t *testing.T, x *flight.List, s *slow, i int) { turned(t, x, s, x.Gone(1), s.gone(1)) },
		func(t *testing.T, x *flight.List, s *slow, i int) { resent(t, x, s, 5, false, 2, 13, i) },
		func(t *testing.T, x *flight.List, s *slow, i int) { turned(t, x, s, x.Acked(4), s.acked(4)) },
	}
	total := 1
	for range long {
		total *= len(calls)
	}
	for run := range total {
		x, s := flight.New(3), newSlow(3)
		for i, rest := 0, run; i < long; i, rest = i+1, rest/len(calls) {
			calls[rest%len(calls)](t, x, s, i)
		}
	}
}

// drawnPiece: a piece near to others, more often than not.
func drawnPiece(r *rand.Rand, base uint32, now int) chunk {
	return chunk{
		From: uint64(r.Intn(12) * 5), Len: []int{5, 5, 5, 5, 8, 1, 0, -2}[r.Intn(8)], Fin: r.Intn(6) == 0, Flow: r.Intn(3),
		End: base + uint32(r.Intn(40)), Sent: max(now-r.Intn(9), 0), Tries: r.Intn(3), Came: r.Intn(9) == 0, Lost: r.Intn(9) == 0,
	}
}

// step: a drawn call of both; which one it was, and whether it turned something.
func step(t *testing.T, r *rand.Rand, x *flight.List, s *slow, base uint32, now int) (int, bool) {
	t.Helper()
	flow := r.Intn(3)
	call := r.Intn(10)
	var got, want []chunk
	switch call {
	case 0:
		to := uint64(r.Intn(40))
		got, want = x.Acked(to), s.acked(to)
	case 1, 2:
		call = 1
		ack := base + uint32(r.Intn(40))
		got, want = x.Word(flow, ack), s.word(flow, ack)
	case 3:
		wait := r.Intn(9)
		got, want = x.Late(flow, now, wait), s.late(flow, now, wait)
	case 4:
		got, want = x.Gone(flow), s.gone(flow)
	case 5, 6:
		ahead := x.All()
		resent(t, x, s, uint64(r.Intn(12)*5), r.Intn(6) == 0, flow, base+uint32(r.Intn(40)), now)
		return 5, !slices.Equal(x.All(), ahead)
	default:
		many := x.Len()
		add(t, x, s, drawnPiece(r, base, now))
		return 7, x.Len() > many
	}
	turned(t, x, s, got, want)
	return call, len(got) > 0
}

func TestDrawn(t *testing.T) {
	r := rand.New(rand.NewSource(16))
	seen := map[int]int{}
	for round := range 1500 {
		most := r.Intn(20)
		base := []uint32{0, 1000, half - 20, last - 20}[round%4]
		now := []int{0, 100, half - 301}[round%3]
		x, s := flight.New(most), newSlow(most)
		for range 300 {
			if call, did := step(t, r, x, s, base, now); did {
				seen[call]++
			}
			if r.Intn(3) == 0 {
				now++
			}
		}
	}
	for _, call := range []int{0, 1, 3, 4, 5, 7} {
		if seen[call] < 1000 {
			t.Errorf("call %d did something just %d times", call, seen[call])
		}
	}
}

// P1, P2

// Each call takes any argument, of any pieces.
func TestOdd(t *testing.T) {
	for _, n := range oddInts {
		for _, m := range oddInts {
			x := flight.New(m)
			for _, k := range oddInts {
				x.Add(chunk{From: uint64(n), Len: k, Fin: k%2 == 0, Flow: m, End: uint32(k), Sent: k, Tries: n})
			}
			x.Word(m, uint32(n))
			for _, k := range oddInts {
				x.Late(m, n, k)
				x.Resent(uint64(n), k%2 == 0, m, uint32(k), k)
				x.Late(k, n, m)
			}
			x.Gone(m)
			if c, ok := x.Again(); !ok || c.Flow != m || !c.Lost {
				t.Fatal(n, m, c, ok)
			}
			x.Acked(uint64(n))
			x.Acked(top)
			if x.Len() != 0 {
				t.Fatal(n, m, x.All())
			}
		}
	}
}

// What is answered is new memory: neither a list nor another answer is turned with it, and nothing lies behind its length.
func TestMemory(t *testing.T) {
	l := kinds()[:60]
	x, s := of(t, l...)
	var old [][]chunk
	for _, ask := range []func() []chunk{
		x.All,
		func() []chunk { return x.Word(0, 100) },
		func() []chunk { return x.Late(1, 60, 10) },
		func() []chunk { return x.Gone(2) },
		func() []chunk { return x.Acked(200) },
		x.All,
	} {
		got := ask()
		if len(got) == 0 {
			t.Fatal("nothing is turned")
		}
		for _, c := range got[len(got):cap(got)] {
			if c != (chunk{}) {
				t.Fatalf("%+v lies behind", c)
			}
		}
		old = append(old, got, slices.Clone(got))
	}
	s.word(0, 100)
	s.late(1, 60, 10)
	s.gone(2)
	s.acked(200)
	same(t, x, s)
	for i := 0; i < len(old); i += 2 {
		if !slices.Equal(old[i], old[i+1]) {
			t.Fatal(i, "was turned by later calls")
		}
		for k := range old[i] {
			old[i][k] = chunk{From: top, Tries: -9}
		}
		_ = append(old[i], chunk{From: 77})
		same(t, x, s)
	}
	add(t, x, s, chunk{From: 7})
	for i := 0; i < len(old); i += 2 {
		for _, c := range old[i] {
			if c != (chunk{From: top, Tries: -9}) {
				t.Fatal(i, c)
			}
		}
	}
}

// Looking turns nothing, no list matters to another one, and the same calls answer the same.
func TestAlone(t *testing.T) {
	r := rand.New(rand.NewSource(17))
	one, other := flight.New(9), flight.New(9)
	s, far := newSlow(9), newSlow(9)
	for now := range 3000 {
		seed := r.Int63()
		step(t, rand.New(rand.NewSource(seed)), one, s, 10, now)
		for range r.Intn(3) {
			same(t, one, s)
		}
		step(t, r, other, far, 10, now)
		same(t, one, s)
	}
}
