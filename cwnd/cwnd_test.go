package cwnd_test

import (
	"math"
	"math/big"
	"math/rand"
	"slices"
	"testing"

	"brougham/cwnd"
)

// odd: numbers at the bounds, next to them, and such as go round when they are multiplied.
var odd = []int{
	math.MinInt, math.MinInt + 1, -1 << 32, -65536, -1024, -2, -1, 0, 1, 2, 3, 7, 10, 31, 32, 33, 63, 64, 65, 100, 255, 512, 1000, 1023, 1024, 1025, 1026, 2048,
	4095, 4096, 4097, 65535, 65536, 65537, 1 << 20, 1<<31 - 1, 1 << 31, 1 << 32, 1<<32 + 1, 1 << 48, 1 << 54, 1 << 62, math.MaxInt - 1, math.MaxInt,
}

func num(n int) *big.Int { return big.NewInt(int64(n)) }

func plus(a, b *big.Int) *big.Int { return new(big.Int).Add(a, b) }

func less(a, b *big.Int) *big.Int { return new(big.Int).Sub(a, b) }

func times(a, b *big.Int) *big.Int { return new(big.Int).Mul(a, b) }

// by: divided, rounded down.
func by(a, b *big.Int) *big.Int { return new(big.Int).Div(a, b) }

// within: the nearer bound of what isn't from low to high.
func within(low int, n *big.Int, high int) *big.Int {
	if n.Cmp(num(low)) < 0 {
		return num(low)
	}
	if n.Cmp(num(high)) > 0 {
		return num(high)
	}
	return n
}

// slowSizes: the sum of the sizes of those paths that count.
func slowSizes(l []cwnd.Path) *big.Int {
	sum := num(0)
	for i, p := range l {
		if i < 64 {
			sum = plus(sum, within(1, num(p.Size), 65536))
		}
	}
	return sum
}

// slowAlpha reckons in numbers of any size.
func slowAlpha(l []cwnd.Path) int {
	best, sum := num(0), num(0)
	for i, p := range l {
		if i >= 64 {
			break
		}
		size, mean := times(within(1, num(p.Size), 65536), num(1024)), within(1, num(p.Mean), 4096)
		if one := by(size, times(mean, mean)); one.Cmp(best) > 0 {
			best = one
		}
		sum = plus(sum, by(size, mean))
	}
	sum = by(sum, num(1024))
	if best.Sign() == 0 || sum.Sign() == 0 {
		return 1024
	}
	return int(within(1, by(times(slowSizes(l), best), times(sum, sum)), 65536).Int64())
}

// slow is a window that reckons in numbers of any size; fast is up to where it grows fast.
type slow struct {
	mss, size, fast, part, under *big.Int
}

func newSlow(mss int) *slow {
	m := within(1, num(mss), 1024)
	return &slow{m, times(m, num(4)), times(m, num(64)), num(0), num(0)}
}

func (s *slow) sent(n int) { s.under = plus(s.under, within(0, num(n), 1024)) }

func (s *slow) forget(n int) {
	s.under = less(s.under, within(0, num(n), 1024))
	if s.under.Sign() < 0 {
		s.under = num(0)
	}
}

func (s *slow) top() int { return int(s.mss.Int64()) * 64 }

// behind: does it grow no more by all that came?
func (s *slow) behind() bool { return s.size.Cmp(s.fast) >= 0 }

func (s *slow) acked(n int, l []cwnd.Path) {
	s.forget(n)
	came := within(0, num(n), 1024)
	if !s.behind() {
		s.size = within(0, plus(s.size, came), s.top())
		return
	}
	all := slowSizes(l)
	if all.Cmp(s.size) < 0 {
		all = s.size
	}
	more := by(times(times(num(slowAlpha(l)), came), s.mss), all)
	if alone := by(times(times(num(1024), came), s.mss), s.size); alone.Cmp(more) < 0 {
		more = alone
	}
	part := plus(s.part, more)
	s.size = within(0, plus(s.size, by(part, num(1024))), s.top())
	s.part = new(big.Int).Mod(part, num(1024))
}

func (s *slow) lost(n int) {
	s.fast = by(s.size, num(2))
	if two := times(s.mss, num(2)); s.fast.Cmp(two) < 0 {
		s.fast = two
	}
	s.size, s.part = s.mss, num(0)
	s.forget(n)
}

func (s *slow) room() int {
	if s.under.Cmp(s.size) > 0 {
		return 0
	}
	return int(less(s.size, s.under).Int64())
}

// same: do both windows say the same, and what they may say?
func same(t *testing.T, w *cwnd.Window, s *slow, told ...int) {
	t.Helper()
	size, under, room := int(s.size.Int64()), int(s.under.Int64()), s.room()
	if w.Size() != size || w.Under() != under || w.Room() != room {
		t.Fatalf("%v (mss %d): Size %d, Under %d, Room %d, not %d, %d, %d", told, s.mss, w.Size(), w.Under(), w.Room(), size, under, room)
	}
	mss := int(s.mss.Int64())
	if w.Size() < mss || w.Size() > 64*mss || w.Under() < 0 || w.Room() < 0 || w.Room() > w.Size() {
		t.Fatalf("%v (mss %d): Size %d, Under %d, Room %d", told, mss, w.Size(), w.Under(), w.Room())
	}
}

// is: a window's size, and how many are under way.
func is(t *testing.T, w *cwnd.Window, size, under int) {
	t.Helper()
	if w.Size() != size || w.Under() != under || w.Room() != max(size-under, 0) {
		t.Fatalf("Size %d, Under %d, Room %d, not %d, %d", w.Size(), w.Under(), w.Room(), size, under)
	}
}

// many: so many times the same path.
func many(n int, p cwnd.Path) []cwnd.Path { return slices.Repeat([]cwnd.Path{p}, n) }

// of300: a window of segments of 100 bytes that has 300, and grows no more by all that came, as it did so up to 250.
func of300() *cwnd.Window {
	w := cwnd.New(100)
	w.Acked(100)
	w.Lost(0)
	w.Acked(100)
	w.Acked(100)
	return w
}

func TestExample(t *testing.T) {
	w := cwnd.New(100)
	is(t, w, 400, 0)
	w.Sent(100)
	w.Acked(100)
	is(t, w, 500, 0)
	w.Lost(0)
	is(t, w, 100, 0)
}

func TestNumbers(t *testing.T) {
	if cwnd.Begin != 4 || cwnd.Most != 64 {
		t.Error(cwnd.Begin, cwnd.Most)
	}
}

// P13.1

// Each size of a segment: four of them at first, and none is under way.
func TestNew(t *testing.T) {
	for mss := -3; mss < 1100; mss++ {
		is(t, cwnd.New(mss), 4*min(max(mss, 1), 1024), 0)
	}
	for _, mss := range odd {
		is(t, cwnd.New(mss), 4*min(max(mss, 1), 1024), 0)
	}
}

// A new window grows fast up to 64 segments, and no further.
func TestNewGrowsFast(t *testing.T) {
	for _, mss := range []int{-1, 0, 1, 2, 16, 100, 1023, 1024, 1025} {
		one := min(max(mss, 1), 1024)
		w := cwnd.New(mss)
		for i := range 70 {
			is(t, w, min(4+i, 64)*one, 0)
			w.Acked(one)
		}
	}
}

// Sent and Forget count, whatever the size is; Room is none, where more are under way than may be.
func TestUnder(t *testing.T) {
	w := cwnd.New(100)
	for _, x := range []struct {
		sent, forget, under int
	}{
		{0, 0, 0}, {0, 5, 0}, {100, 0, 100}, {50, 0, 150}, {249, 0, 399}, {1, 0, 400}, {1, 0, 401}, {1024, 0, 1425}, {0, 1024, 401}, {0, 2, 399},
		{0, 399, 0}, {0, 1, 0}, {7, 0, 7}, {0, 8, 0}, {7, 0, 7}, {0, 7, 0}, {0, 1024, 0},
	} {
		w.Sent(x.sent)
		w.Forget(x.forget)
		is(t, w, 400, x.under)
	}
	for i := range 3000 {
		is(t, w, 400, i*1024)
		w.Sent(1024)
	}
	for i := 3000; i >= 0; i-- {
		is(t, w, 400, i*1024)
		w.Forget(1024)
	}
	is(t, w, 400, 0)
}

// Of numbers of bytes that aren't from 0 to MaxData the nearer bound counts, in each call.
func TestBytes(t *testing.T) {
	for _, n := range odd {
		near := min(max(n, 0), 1024)
		w := cwnd.New(1024)
		w.Sent(n)
		is(t, w, 4096, near)
		w.Sent(1000)
		w.Sent(1000)
		w.Forget(n)
		is(t, w, 4096, 2000)
		w.Acked(n)
		is(t, w, 4096+near, 2000-near)
		w.Lost(n)
		is(t, w, 1024, max(2000-2*near, 0))
	}
}

// P13.2

// Worked out by hand: T, B and S stand beside each.
func TestAlpha(t *testing.T) {
	for _, x := range []struct {
		l    []cwnd.Path
		want int
	}{
		{nil, 1024},
		{[]cwnd.Path{}, 1024},
		{[]cwnd.Path{{1000, 10}}, 1024},                 // 1000, 10240, 100
		{[]cwnd.Path{{1, 1}}, 1024},                     // 1, 1024, 1
		{[]cwnd.Path{{19, 10}}, 3686},                   // 19, 194, 1
		{[]cwnd.Path{{1, 2}}, 1024},                     // B 256, S 0
		{[]cwnd.Path{{1, 33}}, 1024},                    // B 0, S 0
		{many(64, cwnd.Path{16000, 4096}), 1024},        // B 0, S 250
		{[]cwnd.Path{{1000, 10}, {1000, 10}}, 512},      // 2000, 10240, 200
		{[]cwnd.Path{{400, 10}, {1600, 20}}, 568},       // 2000, 4096, 120
		{[]cwnd.Path{{1600, 20}, {400, 10}}, 568},       // the same in another order
		{[]cwnd.Path{{1000, 10}, {1, 4096}}, 1025},      // 1001, 10240, 100
		{[]cwnd.Path{{1000, 10}, {65536, 4096}}, 50633}, // 66536, 10240, 116
		{many(64, cwnd.Path{65536, 1}), 16},             // 2^22, 2^26, 2^22
		{many(65, cwnd.Path{65536, 1}), 16},             // one more doesn't count
		{[]cwnd.Path{{65536, 1}}, 1024},                 // 2^16, 2^26, 2^16
		{[]cwnd.Path{{65536, 4096}}, 1024},              // 65536, 4, 16
		{[]cwnd.Path{{1, 1}, {62, 4096}}, 64512},        // 63, 1024, 1
		{[]cwnd.Path{{1, 1}, {63, 4096}}, 65536},        // 64, 1024, 1
		{[]cwnd.Path{{1, 1}, {64, 4096}}, 65536},        // 65, 1024, 1: past it
		{[]cwnd.Path{{1, 1}, {4000, 4096}}, 65536},      // 4001, 1024, 1
		{[]cwnd.Path{{1023, 1024}, {1023, 1024}}, 1024}, // B 0, S 1
		{[]cwnd.Path{{1535, 1024}}, 1535},               // 1535, 1, 1
		{[]cwnd.Path{{1, 3}, {1, 3}, {1, 3}}, 1024},     // B 113, S of three times 341, so 0
		{[]cwnd.Path{{1, 3}, {2, 3}}, 1024},             // B 227, S of 341 and 682, so 0
		{[]cwnd.Path{{1, 3}, {2, 3}, {1, 3}}, 908},      // 4, 227, 1 of 1364
	} {
		if got := cwnd.Alpha(x.l...); got != x.want || got != slowAlpha(x.l) {
			t.Errorf("%v: %d, not %d (%d)", x.l, got, x.want, slowAlpha(x.l))
		}
	}
}

// What isn't within its bounds counts as the nearer one: beside other paths, too.
func TestAlphaBounds(t *testing.T) {
	for _, beside := range [][]cwnd.Path{nil, {{1000, 10}}, {{65536, 1}}, {{1, 1}}, {{1, 4096}}, {{300, 7}, {70, 3}}} {
		for _, size := range odd {
			for _, mean := range odd {
				near := cwnd.Path{Size: min(max(size, 1), 65536), Mean: min(max(mean, 1), 4096)}
				l := append([]cwnd.Path{{size, mean}}, beside...)
				one, two := cwnd.Alpha(l...), cwnd.Alpha(append([]cwnd.Path{near}, beside...)...)
				if one != two || one != slowAlpha(l) {
					t.Fatalf("%v: %d, %d, not %d", l, one, two, slowAlpha(l))
				}
			}
		}
	}
}

// The first 64 paths count; what stands behind them doesn't, whatever it is.
func TestAlphaFirst(t *testing.T) {
	r := rand.New(rand.NewSource(1))
	for range 200 {
		l := []cwnd.Path{}
		for range 64 {
			l = append(l, cwnd.Path{Size: r.Intn(2000), Mean: r.Intn(100)})
		}
		want := cwnd.Alpha(l...)
		if want != slowAlpha(l) {
			t.Fatalf("%v: %d, not %d", l, want, slowAlpha(l))
		}
		for _, p := range []cwnd.Path{{1, 4096}, {65536, 1}, {1, 1}, {65536, 4096}} {
			if got := cwnd.Alpha(append(slices.Clone(l), many(1+r.Intn(300), p)...)...); got != want {
				t.Fatalf("%v, then %v: %d, not %d", l, p, got, want)
			}
			last := append(slices.Clone(l[:63]), p)
			if got := cwnd.Alpha(last...); got != slowAlpha(last) {
				t.Fatalf("%v: %d, not %d", last, got, slowAlpha(last))
			}
		}
	}
	if got := cwnd.Alpha(many(1<<20, cwnd.Path{1000, 10})...); got != 16 {
		t.Error(got)
	}
}

// Each path of few bytes and ticks, each two of fewer, and drawn ones.
func TestAlphaEach(t *testing.T) {
	say := func(l ...cwnd.Path) {
		t.Helper()
		if got := cwnd.Alpha(l...); got != slowAlpha(l) || got < 1 || got > 65536 {
			t.Fatalf("%v: %d, not %d", l, got, slowAlpha(l))
		}
	}
	for size := range 200 {
		for mean := range 200 {
			say(cwnd.Path{Size: size, Mean: mean})
			say(cwnd.Path{Size: size % 14, Mean: size / 14}, cwnd.Path{Size: mean % 14, Mean: mean / 14})
		}
	}
	r := rand.New(rand.NewSource(2))
	for range 20000 {
		l := []cwnd.Path{}
		size, mean := 1+r.Intn(70000), 1+r.Intn(4200)
		for range r.Intn(6) {
			l = append(l, cwnd.Path{Size: r.Intn(size), Mean: r.Intn(mean)})
		}
		say(l...)
	}
}

// P13.3

// Below slow it grows by all that came, over it at once if need be, whichever paths are told.
func TestFast(t *testing.T) {
	w := cwnd.New(100)
	for range 6 {
		w.Acked(100, many(3, cwnd.Path{65536, 4096})...)
	}
	is(t, w, 1000, 0)
	w.Lost(0)
	for _, x := range [][2]int{{0, 100}, {1, 101}, {-5, 101}, {398, 499}, {1024, 1523}} { // up to 500
		w.Acked(x[0], cwnd.Path{1, 1})
		is(t, w, x[1], 0)
	}
	w.Acked(100)
	is(t, w, 1529, 0) // 6.56 more
	w = cwnd.New(100)
	w.Acked(100)
	w.Lost(0)
	w.Acked(150)
	is(t, w, 250, 0) // of 500: slow is just 250
	w.Acked(100)
	is(t, w, 290, 0)
}

// At most 64 segments, fast and slowly, of each size of a segment.
func TestMost(t *testing.T) {
	for mss := 1; mss <= 1024; mss++ {
		w := cwnd.New(mss)
		for w.Size() < 64*mss {
			before := w.Size()
			w.Acked(1024)
			if w.Size() != min(before+1024, 64*mss) {
				t.Fatalf("%d: of %d %d", mss, before, w.Size())
			}
		}
		w.Acked(1024)
		w.Acked(1024, cwnd.Path{1, 1}, cwnd.Path{4000, 4096})
		is(t, w, 64*mss, 0)
	}
}

// A window that grew slowly up to 64 segments stays there; then half of it is where it grows fast up to.
func TestMostSlowly(t *testing.T) {
	for _, mss := range []int{1, 3, 10, 1024} {
		w, s := cwnd.New(mss), newSlow(mss)
		for range 64 {
			w.Acked(mss)
			s.acked(mss, nil)
		}
		w.Lost(0)
		s.lost(0)
		steps := 0
		for ; w.Size() < 64*mss && steps < 1<<17; steps++ {
			w.Acked(mss)
			s.acked(mss, nil)
			same(t, w, s, steps)
		}
		for range 300 {
			w.Acked(mss)
			s.acked(mss, nil)
			same(t, w, s, steps)
		}
		w.Lost(0)
		s.lost(0)
		for range 100 {
			w.Acked(mss)
			s.acked(mss, nil)
			same(t, w, s, steps)
		}
		if w.Size() < 32*mss || w.Size() > 35*mss {
			t.Errorf("%d: %d", mss, w.Size())
		}
	}
}

// Worked out by hand, of a window of 300 bytes and segments of 100: 34133 parts of 1024 are 33 bytes and 341.
func TestSlowly(t *testing.T) {
	for _, x := range []struct {
		n    int
		l    []cwnd.Path
		want []int
	}{
		{100, nil, []int{300, 333, 363, 390}},                                                                   // 34133; 30750, 28209: parts left over 341, 371, 932
		{100, []cwnd.Path{{300, 10}}, []int{300, 333, 363, 390}},                                                // T is the size, as that is greater
		{100, []cwnd.Path{{1, 1}}, []int{300, 333, 363, 390}},                                                   // so here
		{100, []cwnd.Path{{300, 10}, {300, 10}}, []int{300, 308, 316}},                                          // Alpha 512, T 600: 8533 each time
		{100, []cwnd.Path{{300, 10}, {900, 10}}, []int{300, 306, 312}},                                          // Alpha 768 (1200, 9216, 120), T 1200: 6400 each time: 6.25
		{100, many(4, cwnd.Path{300, 10}), []int{300, 302, 304, 306}},                                           // Alpha 256, T 1200: 2133 each time: 2.08
		{100, many(65, cwnd.Path{65536, 1}), []int{300, 300, 300}},                                              // 16 and 2^22: nothing
		{100, []cwnd.Path{{1, 1}, {63, 4096}}, []int{300, 333, 363, 390}},                                       // Alpha 65536: the lesser one is that of the size alone
		{1, nil, []int{300, 300, 300, 300, 301}},                                                                // 341 each time, so three of them are 1023; the fourth makes it 340 and 1
		{1, []cwnd.Path{{300, 10}, {300, 10}}, then(300, 13, 301)},                                              // 85 each time: thirteen of them are 1105
		{1024, append(many(64, cwnd.Path{10, 10}), many(9, cwnd.Path{65536, 1})...), []int{300, 302, 304, 307}}, // Alpha 15 (640, 102, 64), T 640: 2400 each time
		{0, nil, []int{300, 300, 300}},
		{-1, nil, []int{300, 300, 300}},
		{1024, nil, []int{300, 641, 801}},        // 349525; 163589 and 341
		{math.MaxInt, nil, []int{300, 641, 801}}, // as 1024
		{math.MinInt, nil, []int{300, 300, 300}}, // as 0
	} {
		w := of300()
		for i, want := range x.want {
			if w.Size() != want {
				t.Errorf("%d, %v: %d times: %d, not %d", x.n, x.l, i, w.Size(), want)
			}
			w.Acked(x.n, x.l...)
		}
	}
}

// then: so many times the one number, then once the other.
func then(a, n, b int) []int { return append(slices.Repeat([]int{a}, n), b) }

// Whatever the parts were, all that came in pieces makes as much as the slow one says; a part that is left over counts.
func TestParts(t *testing.T) {
	for _, n := range []int{1, 2, 3, 7, 64, 99, 100, 101, 1024} {
		for _, l := range [][]cwnd.Path{nil, {{300, 10}}, {{300, 10}, {500, 3}}, {{300, 10}, {500, 3}, {5000, 30}, {2, 4000}}} {
			w, s := of300(), newSlow(100)
			s.acked(100, nil)
			s.lost(0)
			s.acked(100, nil)
			s.acked(100, nil)
			for i := range 3000 {
				same(t, w, s, n, i)
				w.Acked(n, l...)
				s.acked(n, l)
			}
		}
	}
}

// Acked takes what came off what is under way, and no more than there is.
func TestAckedUnder(t *testing.T) {
	w := cwnd.New(100)
	w.Sent(250)
	w.Acked(100)
	is(t, w, 500, 150)
	w.Acked(151)
	is(t, w, 651, 0)
	w.Sent(10)
	is(t, w, 651, 10)
	w = of300()
	w.Sent(150)
	w.Acked(100)
	is(t, w, 333, 50)
	w.Acked(100)
	is(t, w, 363, 0)
}

// P13.4

// One segment is left; it grows fast up to half of what it was, at least two segments; half is rounded down.
func TestLost(t *testing.T) {
	for _, x := range []struct {
		size, slow int // slow: where it doesn't grow fast any more
	}{
		{400, 200}, {401, 200}, {403, 201}, {500, 250}, {799, 399}, {800, 400}, {1001, 500}, {6400, 3200},
	} {
		w := cwnd.New(100)
		grow(w, x.size)
		w.Lost(0)
		is(t, w, 100, 0)
		grow(w, x.slow-1)
		is(t, w, x.slow-1, 0)
		w.Acked(1)
		is(t, w, x.slow, 0)
		w.Acked(1)
		is(t, w, x.slow, 0) // 1024 times 100 by the size: less than a whole byte
	}
}

// grow: a window below slow has so many bytes.
func grow(w *cwnd.Window, size int) {
	for w.Size() < size {
		w.Acked(min(size-w.Size(), 1024))
	}
}

// Of a window of one segment, and once more and more: two segments is where it grows fast up to.
func TestLostAgain(t *testing.T) {
	for _, mss := range []int{1, 2, 100, 1024} {
		for _, first := range []int{0, 1, 3, 60} {
			w := cwnd.New(mss)
			for range first {
				w.Acked(mss)
			}
			for range 9 {
				w.Lost(mss)
			}
			is(t, w, mss, 0)
			w.Acked(mss)
			is(t, w, 2*mss, 0)
			w.Acked(mss)
			is(t, w, 2*mss+mss/2, 0)
		}
	}
}

// What is under way goes by what is lost, no more than there is; the rest is under way still, and there may be no room then.
func TestLostUnder(t *testing.T) {
	w := cwnd.New(100)
	w.Sent(350)
	w.Lost(100)
	is(t, w, 100, 250)
	w.Lost(-7)
	is(t, w, 100, 250)
	w.Lost(249)
	is(t, w, 100, 1)
	w.Lost(math.MaxInt)
	is(t, w, 100, 0)
}

// The part goes, too: behind the loss it grows as if there had been none.
func TestLostPart(t *testing.T) {
	for n := range 100 {
		w := of300()
		for range n {
			w.Acked(1)
		}
		w.Lost(0)
		w.Acked(100)
		is(t, w, 200, 0)
		// slow is 200; of a size of 200 each byte makes 512 parts
		w.Acked(1)
		is(t, w, 200, 0)
		w.Acked(1)
		is(t, w, 201, 0)
	}
}

// Calls in drawn orders.
func TestDrawn(t *testing.T) {
	r := rand.New(rand.NewSource(3))
	for range 1500 {
		mss := []int{1, 8, 100, 1024, odd[r.Intn(len(odd))]}[r.Intn(5)]
		w, s := cwnd.New(mss), newSlow(mss)
		losses := []int{2, 30, 1000}[r.Intn(3)]
		for range 200 {
			n := r.Intn(1 + min(max(2*mss, 0), 1100))
			if r.Intn(20) == 0 {
				n = odd[r.Intn(len(odd))]
			}
			step(r, w, s, n, losses)
			same(t, w, s, n)
		}
	}
}

// step: one drawn call of both.
func step(r *rand.Rand, w *cwnd.Window, s *slow, n, losses int) {
	if r.Intn(losses) == 0 {
		w.Lost(n)
		s.lost(n)
		return
	}
	switch r.Intn(5) {
	case 0:
		w.Sent(n)
		s.sent(n)
	case 1:
		w.Forget(n)
		s.forget(n)
	default:
		l := drawn(r, w.Size())
		w.Acked(n, l...)
		s.acked(n, l)
	}
}

// drawn: some paths, one of them mostly of this size; now and then such as are past the bounds.
func drawn(r *rand.Rand, size int) []cwnd.Path {
	l := []cwnd.Path{}
	if r.Intn(5) != 0 {
		l = append(l, cwnd.Path{Size: size, Mean: r.Intn(40)})
	}
	for range r.Intn(4) {
		l = append(l, cwnd.Path{Size: r.Intn(2*size + 2), Mean: r.Intn(40)})
	}
	if r.Intn(10) == 0 {
		l = append(l, cwnd.Path{Size: odd[r.Intn(len(odd))], Mean: odd[r.Intn(len(odd))]})
	}
	return l
}

// P13.5

// From one segment to 64, at all numbers: in each order of two calls behind each other.
func TestBounds(t *testing.T) {
	calls := []func(w *cwnd.Window, n int){
		func(w *cwnd.Window, n int) { w.Sent(n) },
		func(w *cwnd.Window, n int) { w.Acked(n) },
		func(w *cwnd.Window, n int) { w.Acked(n, cwnd.Path{Size: n, Mean: n}) },
		func(w *cwnd.Window, n int) { w.Lost(n) },
		func(w *cwnd.Window, n int) { w.Forget(n) },
	}
	for _, mss := range odd {
		one := min(max(mss, 1), 1024)
		for _, n := range odd {
			for _, a := range calls {
				for _, b := range calls {
					w := cwnd.New(mss)
					for range 5 {
						a(w, n)
						b(w, n)
						if w.Size() < one || w.Size() > 64*one || w.Under() < 0 || w.Room() < 0 || w.Room() > w.Size() {
							t.Fatalf("%d, %d: Size %d, Under %d, Room %d", mss, n, w.Size(), w.Under(), w.Room())
						}
					}
				}
			}
		}
	}
}

// Behind slow: in whichever pieces all of a size is acknowledged, it is at most a segment greater then; and nearly one, if the path is alone.
func TestSegmentEach(t *testing.T) {
	r := rand.New(rand.NewSource(4))
	for range 600 {
		mss := 1 + r.Intn(1024)
		w, s := cwnd.New(mss), newSlow(mss)
		for range r.Intn(40) {
			w.Acked(mss)
			s.acked(mss, nil)
		}
		w.Lost(0)
		s.lost(0)
		for !s.behind() {
			w.Acked(max(mss/3, 1))
			s.acked(max(mss/3, 1), nil)
		}
		most := 1 + r.Intn(1024)
		for range 6 {
			before, others := w.Size(), r.Intn(2) == 0
			for left := before; left > 0; {
				n := min(1+r.Intn(most), left)
				left -= n
				l := []cwnd.Path{{Size: w.Size(), Mean: 10}}
				if others {
					l = drawn(r, w.Size())
				}
				w.Acked(n, l...)
			}
			if w.Size() > min(before+mss, 64*mss) || w.Size() < before {
				t.Fatalf("%d: of %d %d", mss, before, w.Size())
			}
			if !others && 2*(w.Size()-before) < min(mss, 64*mss-before)-2 && most >= 8 {
				t.Fatalf("%d: of %d just %d", mss, before, w.Size())
			}
		}
	}
}

// P1, P2

// What is handed in isn't changed, not even where it counts as its nearer bound; what stands behind a list's length doesn't matter.
func TestHandedIn(t *testing.T) {
	l := append(many(70, cwnd.Path{-5, 5000}), many(10, cwnd.Path{70000, 0})...)
	was := slices.Clone(l)
	cwnd.Alpha(l...)
	of300().Acked(50, l...)
	cwnd.New(9).Acked(50, l...)
	if !slices.Equal(l, was) {
		t.Error(l)
	}
	two := []cwnd.Path{{300, 10}, {300, 10}, {65536, 1}}[:2]
	w := of300()
	w.Acked(100, two...)
	if cwnd.Alpha(two...) != 512 || w.Size() != 308 {
		t.Error(cwnd.Alpha(two...), w.Size())
	}
	two[0] = cwnd.Path{}
	is(t, w, 308, 0)
}

// No window matters to another one, and to look changes nothing.
func TestAlone(t *testing.T) {
	one, two := of300(), of300()
	for range 50 {
		two.Sent(100)
		two.Acked(30, cwnd.Path{300, 10})
		cwnd.New(100).Lost(5)
		is(t, one, 300, 0)
	}
	two.Lost(7)
	is(t, one, 300, 0)
	one.Acked(100)
	is(t, one, 333, 0)
}

// The same calls answer the same once more.
func TestOnceMore(t *testing.T) {
	play := func() []int {
		r, said := rand.New(rand.NewSource(5)), []int{}
		for range 60 {
			w, s := cwnd.New(r.Intn(1200)), newSlow(1)
			for range 100 {
				step(r, w, s, r.Intn(1200)-50, 20)
				said = append(said, w.Size(), w.Under(), w.Room(), cwnd.Alpha(drawn(r, 500)...))
			}
		}
		return said
	}
	if !slices.Equal(play(), play()) {
		t.Error("not the same")
	}
}
