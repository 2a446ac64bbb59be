package replay_test

import (
	"math"
	"math/rand"
	"testing"

	"brougham/replay"
)

// slow is a window that keeps each number that came, for as long as it is kept.
type slow struct {
	came  map[uint64]bool
	top   uint64
	begun bool
}

func (s *slow) kept(n uint64) bool {
	return s.begun && n <= s.top && s.top-n < replay.Size
}

func (s *slow) fresh(n uint64) bool {
	return !s.begun || n > s.top || s.kept(n) && !s.came[n]
}

func (s *slow) take(n uint64) bool {
	if !s.fresh(n) {
		return false
	}
	s.top, s.begun = max(s.top, n), true
	s.came[n] = true
	for x := range s.came {
		if !s.kept(x) {
			delete(s.came, x)
		}
	}
	return true
}

func (s *slow) missing() int {
	if !s.begun {
		return 0
	}
	many := replay.Size
	if s.top < replay.Size {
		many = int(s.top) + 1
	}
	return many - len(s.came)
}

// same: do both windows say the same of what came, and of some numbers?
func same(t *testing.T, w *replay.Window, s *slow, numbers ...uint64) {
	t.Helper()
	before := *w
	if top, ok := w.Top(); top != s.top || ok != s.begun {
		t.Fatalf("Top: %d, %v, not %d, %v", top, ok, s.top, s.begun)
	}
	if got := w.Many(); got != len(s.came) {
		t.Fatalf("Many: %d, not %d", got, len(s.came))
	}
	if got := w.Missing(); got != s.missing() {
		t.Fatalf("Missing: %d, not %d", got, s.missing())
	}
	for _, n := range numbers {
		if got := w.Fresh(n); got != s.fresh(n) {
			t.Fatalf("Fresh(%d): %v, top %d", n, got, s.top)
		}
	}
	if *w != before {
		t.Fatal("looking changes it")
	}
}

// about: numbers about those that are kept.
func about(top uint64) []uint64 {
	var l []uint64
	for n := uint64(0); n < 2*replay.Size+4; n++ {
		l = append(l, top+3-n) // going round, too: any number may be asked for
	}
	return append(l, 0, 1, replay.Size-1, replay.Size, math.MaxUint64, math.MaxUint64-1, 1<<63)
}

// takes: what becomes of numbers, one after the other, in both windows.
func takes(t *testing.T, numbers ...uint64) {
	t.Helper()
	w, s := replay.Window{}, slow{came: map[uint64]bool{}}
	same(t, &w, &s, about(0)...)
	for i, n := range numbers {
		would := w.Fresh(n)
		got, want := w.Take(n), s.take(n)
		if got != want || would != want {
			t.Fatalf("%d. Take(%d): %v, Fresh: %v, not %v", i, n, got, would, want)
		}
		same(t, &w, &s, about(s.top)...)
	}
}

// P41.1

func TestEmpty(t *testing.T) {
	w := replay.Window{}
	if top, ok := w.Top(); top != 0 || ok || w.Many() != 0 || w.Missing() != 0 {
		t.Error(top, ok, w.Many(), w.Missing())
	}
	for _, n := range []uint64{0, 1, 255, 256, 257, 1 << 32, math.MaxUint64} {
		if !w.Fresh(n) {
			t.Error(n)
		}
		if first := (replay.Window{}); !first.Take(n) || first.Take(n) || first.Fresh(n) {
			t.Error(n)
		}
	}
	if w != (replay.Window{}) {
		t.Error("Fresh takes")
	}
	if replay.Size != 256 {
		t.Error(replay.Size)
	}
}

func TestTake(t *testing.T) {
	w := replay.Window{}
	for i, x := range []struct {
		n             uint64
		ok            bool
		top           uint64
		many, missing int
	}{
		{5, true, 5, 1, 5}, {5, false, 5, 1, 5}, {0, true, 5, 2, 4}, {0, false, 5, 2, 4}, {6, true, 6, 3, 4},
		{255, true, 255, 4, 252}, {0, false, 255, 4, 252}, {1, true, 255, 5, 251}, {256, true, 256, 5, 251}, {0, false, 256, 5, 251},
		{257, true, 257, 5, 251}, {1, false, 257, 5, 251}, {2, true, 257, 6, 250}, {300, true, 300, 4, 252}, {5, false, 300, 4, 252}, {44, false, 300, 4, 252}, {45, true, 300, 5, 251}, {45, false, 300, 5, 251},
		{556, true, 556, 1, 255}, {300, false, 556, 1, 255}, {301, true, 556, 2, 254}, {811, true, 811, 2, 254}, {556, false, 811, 2, 254}, {555, false, 811, 2, 254},
		{math.MaxUint64, true, math.MaxUint64, 1, 255}, {math.MaxUint64, false, math.MaxUint64, 1, 255}, {0, false, math.MaxUint64, 1, 255}, {811, false, math.MaxUint64, 1, 255},
		{math.MaxUint64 - 255, true, math.MaxUint64, 2, 254}, {math.MaxUint64 - 256, false, math.MaxUint64, 2, 254}, {math.MaxUint64 - 255, false, math.MaxUint64, 2, 254},
	} {
		if ok := w.Take(x.n); ok != x.ok {
			t.Errorf("%d. Take(%d): %v", i, x.n, ok)
		}
		if top, ok := w.Top(); top != x.top || !ok || w.Many() != x.many || w.Missing() != x.missing {
			t.Errorf("%d. Take(%d): top %d, %v, %d came, %d didn't", i, x.n, top, ok, w.Many(), w.Missing())
		}
	}
}

// Each way up, from each place in the round of what is kept, drops just what isn't kept any more.
func TestRise(t *testing.T) {
	for _, from := range []uint64{0, 1, 63, 64, 255, 256, 300, 1<<32 - 1, math.MaxUint64 - 600} {
		for _, up := range []uint64{1, 2, 63, 64, 65, 128, 254, 255, 256, 257, 300, 511, 512} {
			var l []uint64
			for n := range uint64(260) {
				l = append(l, from-min(from, 259-n)) // all that is kept came
			}
			takes(t, append(l, from+up, from, from+up-1, from+1, from+up)...)
		}
	}
}

func TestEdges(t *testing.T) {
	takes(t, 0, 0, 1, 1, 0)
	takes(t, 1, 0, 0, 2, 1)
	takes(t, 255, 0, 255, 256, 0, 1)
	takes(t, 256, 0, 1, 256, 257, 1, 2)
	takes(t, math.MaxUint64, 0, math.MaxUint64, math.MaxUint64-255, math.MaxUint64-256, math.MaxUint64-1)
	takes(t, math.MaxUint64-1, math.MaxUint64, math.MaxUint64-256, math.MaxUint64-255, math.MaxUint64)
	takes(t, 0, math.MaxUint64, 0, 255, 256, 1<<63)
	takes(t, 1<<63, 1<<63-256, 1<<63-255, 1<<63+256, 1<<63, 1<<63+1)
}

func TestDrawn(t *testing.T) {
	r := rand.New(rand.NewSource(1))
	for range 60 {
		at := []uint64{0, 100, 1 << 40, math.MaxUint64 - 3000}[r.Intn(4)]
		wide := []int{4, 40, 300, 700}[r.Intn(4)]
		var l []uint64
		for range 120 {
			l = append(l, at+uint64(r.Intn(wide)))
			at += uint64(r.Intn(wide/10 + 2))
		}
		takes(t, l...)
	}
}

// P41.2

func TestOnce(t *testing.T) {
	r := rand.New(rand.NewSource(2))
	w, through := replay.Window{}, map[uint64]bool{}
	for range 200000 {
		n := uint64(r.Intn(3000))
		if w.Take(n) {
			if through[n] {
				t.Fatal(n)
			}
			through[n] = true
		}
	}
	if len(through) < replay.Size {
		t.Error(len(through))
	}
}

func TestInOrder(t *testing.T) {
	r := rand.New(rand.NewSource(3))
	for _, step := range []int{1, 2, 10, 255, 256, 257, 1000} {
		w, n := replay.Window{}, uint64(r.Intn(2))
		for range 2000 {
			if !w.Fresh(n) || !w.Take(n) || w.Take(n) {
				t.Fatal(n)
			}
			n += 1 + uint64(r.Intn(step))
		}
	}
	w := replay.Window{}
	for n := uint64(math.MaxUint64 - 1000); n != 0; n++ {
		if !w.Take(n) {
			t.Fatal(n)
		}
	}
	if w.Many() != replay.Size || w.Missing() != 0 {
		t.Error(w.Many(), w.Missing())
	}
}

// P1, P2

// A window's answers depend on what came to it alone: not on other windows, and a copy goes its own way.
func TestAlone(t *testing.T) {
	one, two := replay.Window{}, replay.Window{}
	for _, n := range []uint64{7, 3, 400} {
		one.Take(n)
	}
	two.Take(7)
	if !two.Take(3) || !two.Fresh(400) {
		t.Error("two windows share what came")
	}
	other := one
	if !other.Take(399) || !one.Fresh(399) || one.Fresh(400) || other.Fresh(399) {
		t.Error("a copy shares what came")
	}
}
