package wheel_test

import (
	"fmt"
	"maps"
	"math"
	"math/rand"
	"slices"
	"testing"

	"brougham/wheel"
)

// oddIDs: numbers at the bounds, and near to one another.
var oddIDs = []int{math.MinInt, math.MinInt + 1, -1 << 32, -2, -1, 0, 1, 2, 3, 4096, 65535, 65536, 1 << 31, 1 << 32, math.MaxInt - 1, math.MaxInt}

// oddTicks: ticks ahead where the wheel's rounds begin, and go round, and next to these.
var oddTicks = []int{1, 2, 14, 15, 16, 17, 31, 32, 33, 240, 254, 255, 256, 257, 271, 272, 511, 512, 4080, 4094, 4095, 4096, 4097, 4111, 4352, 8191, 8192, 32768, 61439, 61440, 65279, 65280, 65519, 65520, 65533, 65534, 65535}

// noTicks: such as no number may be due in.
var noTicks = []int{math.MinInt, math.MinInt + 1, -65536, -65535, -2, -1, 0, 65536, 65537, 65536 + 16, 131071, 131072, 1 << 31, 1 << 32, 1<<32 + 1, math.MaxInt - 1, math.MaxInt}

// slow is a wheel that keeps for each number the tick, and looks all of them over.
type slow struct {
	most, now int
	ticks     map[int]int
}

func newSlow(most int) *slow {
	if most < 0 {
		most = 0
	}
	if most > 4096 {
		most = 4096
	}
	return &slow{most: most, ticks: map[int]int{}}
}

func (s *slow) add(id, ticks int) bool {
	if ticks < 1 || ticks > 65535 {
		return false
	}
	delete(s.ticks, id)
	if len(s.ticks) == s.most {
		return false
	}
	s.ticks[id] = s.now + ticks
	return true
}

func (s *slow) cancel(id int) bool {
	_, is := s.ticks[id]
	delete(s.ticks, id)
	return is
}

func (s *slow) due(id int) (int, bool) {
	tick, is := s.ticks[id]
	if !is {
		return 0, false
	}
	return tick - s.now, true
}

func (s *slow) tick() []int {
	var l []int
	s.now++
	for id, tick := range s.ticks {
		if tick == s.now {
			l = append(l, id)
		}
	}
	slices.Sort(l)
	for _, id := range l {
		delete(s.ticks, id)
	}
	return l
}

func (s *slow) next() (int, bool) {
	if len(s.ticks) == 0 {
		return 0, false
	}
	return slices.Min(slices.Collect(maps.Values(s.ticks))) - s.now, true
}

// same: do both wheels say the same, of these numbers too?
func same(t *testing.T, w *wheel.Wheel, s *slow, ids ...int) {
	t.Helper()
	if w.Now() != s.now || w.Len() != len(s.ticks) {
		t.Fatalf("Now %d, Len %d, not %d and %d", w.Now(), w.Len(), s.now, len(s.ticks))
	}
	next, ok := w.Next()
	if want, is := s.next(); next != want || ok != is {
		t.Fatalf("at %d: Next: %d, %v, not %d, %v", s.now, next, ok, want, is)
	}
	for _, id := range ids {
		got, ok := w.Due(id)
		if want, is := s.due(id); got != want || ok != is {
			t.Fatalf("at %d: Due(%d): %d, %v, not %d, %v", s.now, id, got, ok, want, is)
		}
	}
}

// add: a number is due in both.
func add(t *testing.T, w *wheel.Wheel, s *slow, id, ticks int) {
	t.Helper()
	if got, want := w.Add(id, ticks), s.add(id, ticks); got != want {
		t.Fatalf("at %d: Add(%d, %d): %v, not %v", s.now, id, ticks, got, want)
	}
	same(t, w, s, id)
}

// cancel: a number isn't due any more in both.
func cancel(t *testing.T, w *wheel.Wheel, s *slow, id int) {
	t.Helper()
	if got, want := w.Cancel(id), s.cancel(id); got != want {
		t.Fatalf("at %d: Cancel(%d): %v, not %v", s.now, id, got, want)
	}
	same(t, w, s, id)
}

// tick: a tick goes by in both.
func tick(t *testing.T, w *wheel.Wheel, s *slow) {
	t.Helper()
	if got, want := w.Tick(), s.tick(); !slices.Equal(got, want) {
		t.Fatalf("at %d: Tick: %v, not %v", s.now, got, want)
	}
}

// at: a wheel at a tick, of which nothing is due, and a slow one.
func at(t *testing.T, most, now int) (*wheel.Wheel, *slow) {
	t.Helper()
	w, s := wheel.New(most), newSlow(most)
	for range now {
		if l := w.Tick(); len(l) != 0 {
			t.Fatal(l)
		}
	}
	s.now = now
	same(t, w, s, 0)
	return w, s
}

// P29.1

func TestExample(t *testing.T) {
	w := wheel.New(1)
	if !w.Add(7, 2) || len(w.Tick()) != 0 || !slices.Equal(w.Tick(), []int{7}) {
		t.Error(w.Now())
	}
	if wheel.Farthest != 65535 {
		t.Error(wheel.Farthest)
	}
}

func TestNew(t *testing.T) {
	for _, most := range append(oddIDs, 4095, 4097) {
		w, s := wheel.New(most), newSlow(most)
		same(t, w, s, oddIDs...)
		for _, id := range oddIDs {
			cancel(t, w, s, id)
		}
		for range 70000 {
			if l := w.Tick(); len(l) != 0 {
				t.Fatal(most, l)
			}
			s.now++
			same(t, w, s)
		}
	}
}

// As many numbers as may be, and one more: it isn't let in, and nothing is turned; one that is due may be due at another tick.
func TestMost(t *testing.T) {
	for most, want := range map[int]int{
		math.MinInt: 0, -4096: 0, -1: 0, 0: 0, 1: 1, 2: 2, 3: 3, 15: 15, 16: 16, 17: 17, 255: 255, 256: 256, 257: 257, 1000: 1000,
		4095: 4095, 4096: 4096, 4097: 4096, 4098: 4096, 8192: 4096, 1 << 32: 4096, 1<<32 + 1: 4096, math.MaxInt: 4096,
	} {
		w, s := wheel.New(most), newSlow(most)
		for i := range want {
			if w.Len() != i || !w.Add(-i, 1+i*16%wheel.Farthest) || !s.add(-i, 1+i*16%wheel.Farthest) {
				t.Fatalf("New(%d): number %d isn't let in", most, i)
			}
		}
		all := slices.Collect(maps.Keys(s.ticks))
		for _, ticks := range oddTicks {
			if w.Add(1, ticks) || w.Add(math.MaxInt, ticks) {
				t.Fatalf("New(%d): a number too many", most)
			}
		}
		same(t, w, s, append(all, 1, math.MaxInt)...)
		if want == 0 {
			continue
		}
		for _, ticks := range oddTicks {
			add(t, w, s, 1-want, ticks)
		}
		cancel(t, w, s, 0)
		add(t, w, s, 1, 3)
		add(t, w, s, 0, 1)
		add(t, w, s, 2, 1)
		same(t, w, s, all...)
		for range 20 {
			tick(t, w, s)
			same(t, w, s, 0, 1, 2, 1-want)
		}
		add(t, w, s, 5, 1) // in place of what was due
	}
}

// P29.2

// What isn't from 1 to Farthest is turned down, and a number that is due stays due.
func TestBounds(t *testing.T) {
	for _, now := range []int{0, 1, 15, 16, 255, 4095, 65535, 65536} {
		w, s := at(t, 3, now)
		for _, ticks := range noTicks {
			add(t, w, s, 1, ticks)
		}
		for _, old := range oddTicks {
			add(t, w, s, 1, old)
			add(t, w, s, 2, 65536-old)
			for _, ticks := range noTicks {
				add(t, w, s, 1, ticks)
				add(t, w, s, 3, ticks)
				same(t, w, s, 1, 2, 3)
			}
		}
	}
}

// A number is due at another tick, and not at the old one any more.
func TestAgain(t *testing.T) {
	for _, now := range []int{0, 1, 17, 4095} {
		w, s := at(t, 2, now)
		for _, old := range oddTicks[:16] {
			for _, ticks := range oddTicks[:16] {
				add(t, w, s, 1, old)
				add(t, w, s, 2, 16)
				add(t, w, s, 1, ticks)
				for range max(old, ticks, 16) {
					tick(t, w, s)
					same(t, w, s, 1, 2)
				}
				if w.Len() != 0 {
					t.Fatal(old, ticks)
				}
			}
		}
	}
}

// Of some numbers that are due together each one is cancelled, and those that are left, in each order.
func TestCancel(t *testing.T) {
	for _, now := range []int{0, 9, 250} {
		for _, ticks := range []int{1, 20, 300} {
			for which := range 1 << 5 {
				for turn := range 5 {
					w, s := at(t, 6, now)
					for id := range 5 {
						add(t, w, s, id, ticks)
					}
					add(t, w, s, 9, 2)
					for i := range 5 {
						if id := (i*2 + turn) % 5; which>>id&1 == 1 {
							cancel(t, w, s, id)
							cancel(t, w, s, id)
							same(t, w, s, 0, 1, 2, 3, 4, 9)
						}
					}
					for range ticks + 1 {
						tick(t, w, s)
						same(t, w, s, 0, 1, 2, 3, 4, 9)
					}
				}
			}
		}
	}
}

// Any numbers: none of them is another one.
func TestIDs(t *testing.T) {
	w, s := at(t, 100, 3)
	for i, id := range oddIDs {
		add(t, w, s, id, oddTicks[i])
	}
	same(t, w, s, oddIDs...)
	for range 700 {
		tick(t, w, s)
		same(t, w, s, oddIDs...)
	}
	for _, id := range oddIDs {
		cancel(t, w, s, id)
	}
	same(t, w, s, oddIDs...)
}

// One number, from each tick on at which something may begin: it's due in as many ticks as were told, and Due and Next say so at each tick.
func TestOne(t *testing.T) {
	for _, now := range []int{0, 1, 15, 16, 17, 255, 256, 4095, 4096, 4097, 65534, 65535, 65536, 131071} {
		for _, ticks := range oddTicks {
			w, _ := at(t, 1, now)
			if !w.Add(7, ticks) {
				t.Fatal(now, ticks)
			}
			for left := ticks; left > 0; left-- {
				n, ok := w.Due(7)
				if next, is := w.Next(); n != left || !ok || next != left || !is {
					t.Fatalf("at %d, due in %d: Due %d, %v, Next %d, %v", w.Now(), left, n, ok, next, is)
				}
				if l := w.Tick(); len(l) != 0 && left > 1 {
					t.Fatalf("at %d, due in %d: %v", w.Now(), left-1, l)
				} else if left == 1 && !slices.Equal(l, []int{7}) {
					t.Fatalf("at %d: %v", w.Now(), l)
				}
			}
			if _, ok := w.Due(7); ok || w.Len() != 0 || w.Cancel(7) {
				t.Fatal(now, ticks)
			}
		}
	}
}

// Two numbers, that come to the wheel at different ticks: Next is the nearer one, wherever they stand.
func TestTwo(t *testing.T) {
	for _, now := range []int{0, 5, 4090, 65530} {
		for _, one := range []int{17, 40, 256, 300, 4096, 65535} {
			for _, two := range []int{1, 15, 16, 17, 255, 4097, 65534} {
				for _, between := range []int{0, 1, 11, 16} {
					w, s := at(t, 2, now)
					add(t, w, s, 1, one)
					for range between {
						tick(t, w, s)
					}
					add(t, w, s, 2, two)
					for range 400 {
						tick(t, w, s)
						same(t, w, s, 1, 2)
					}
				}
			}
		}
	}
}

// P29.3

// From some ticks on, numbers are due in each of 1 to Farthest ticks, by two at most at a time: each comes just then, rising, and Next says so ahead.
func TestEachTick(t *testing.T) {
	const step = 4096
	for _, now := range []int{0, 1, 77, 4095, 65535, 69000} {
		for first := 1; first <= wheel.Farthest; first += step {
			w, _ := at(t, step, now)
			last := min(first+step-1, wheel.Farthest)
			for ticks := first; ticks <= last; ticks++ {
				if !w.Add(ticks*7919%65537-1000, ticks) { // 65537 is prime: each has a number of its own
					t.Fatal(now, ticks)
				}
			}
			for gone := 1; gone <= last; gone++ {
				l := w.Tick()
				if gone < first {
					if len(l) != 0 {
						t.Fatalf("from %d on, behind %d ticks: %v", now, gone, l)
					}
					continue
				}
				if len(l) != 1 || l[0] != gone*7919%65537-1000 || w.Len() != last-gone {
					t.Fatalf("from %d on, behind %d ticks: %v", now, gone, l)
				}
				if next, ok := w.Next(); ok != (gone < last) || ok && next != 1 {
					t.Fatalf("from %d on, behind %d ticks: Next: %d, %v", now, gone, next, ok)
				}
			}
		}
	}
}

// All numbers are due at one tick: they come then, rising, in whatever order, and when, they were told.
func TestTogether(t *testing.T) {
	const many = 4096
	r := rand.New(rand.NewSource(1))
	for _, now := range []int{0, 5000} {
		for _, last := range []int{300, 4100, 65535} {
			w, _ := at(t, many, now)
			ids := r.Perm(many)
			for i := range ids {
				ids[i] -= many / 2
			}
			added := 0
			for gone := range last {
				for added < many && added*last/many <= gone {
					if !w.Add(ids[added], last-gone) {
						t.Fatal(added)
					}
					added++
				}
				l := w.Tick()
				if gone < last-1 {
					if len(l) != 0 {
						t.Fatal(gone, l)
					}
					continue
				}
				slices.Sort(ids[:added])
				if !slices.Equal(l, ids[:added]) || w.Len() != 0 || added != many {
					t.Fatalf("%d came of %d", len(l), added)
				}
			}
		}
	}
}

// Drawn calls, for longer than the wheel goes round.
func TestDrawn(t *testing.T) {
	r := rand.New(rand.NewSource(2))
	for round := range 60 {
		now := []int{0, 4000, 65000, 130000}[r.Intn(4)] + r.Intn(600)
		w, s := at(t, 1+r.Intn(40), now)
		ids := 1 + r.Intn(60)
		busy := 1 + r.Intn(30)
		for range 6000 {
			id := r.Intn(ids) - ids/3
			switch x := r.Intn(busy + 6); {
			case x == 0:
				cancel(t, w, s, id)
			case x <= 2:
				add(t, w, s, id, 1+r.Intn([]int{3, 18, 300, 5000, 65535}[r.Intn(5)]))
			case x == 3 && round%4 == 0:
				add(t, w, s, id, noTicks[r.Intn(len(noTicks))])
			case x == 3:
				add(t, w, s, id, oddTicks[r.Intn(len(oddTicks))])
			default:
				tick(t, w, s)
				same(t, w, s, id)
			}
		}
		for w.Len() > 0 { // what is left comes too
			next, ok := w.Next()
			if !ok {
				t.Fatal(w.Len())
			}
			for range next - 1 {
				if l := w.Tick(); len(l) != 0 {
					t.Fatal(w.Now(), l)
				}
				s.now++
			}
			tick(t, w, s)
			same(t, w, s)
		}
	}
}

// P1, P2

// Each call takes any argument, and answers the same again, of the same calls ahead; looking changes nothing.
func TestAny(t *testing.T) {
	answers := func(most int, look bool) string {
		w, out := wheel.New(most), ""
		for i, id := range oddIDs {
			for _, ticks := range append(oddTicks[i:i+5], noTicks...) {
				out += fmt.Sprintln(w.Add(id, ticks), w.Add(-id, ticks/2), w.Cancel(id/3), w.Tick(), w.Cancel(ticks))
				if look {
					for _, x := range oddIDs {
						w.Due(x)
						w.Next()
						w.Len()
						w.Now()
					}
				}
			}
		}
		for range 70 {
			out += fmt.Sprintln(w.Tick(), w.Len(), w.Now())
		}
		return out
	}
	for _, most := range append(oddIDs, 4095, 4097) {
		want := answers(most, false)
		if answers(most, false) != want || answers(most, true) != want {
			t.Errorf("New(%d): another answer to the same call", most)
		}
	}
}

// What Tick answers shares no memory with the wheel, or with another answer, and nothing lies behind its length; no wheel matters to another one.
func TestShares(t *testing.T) {
	one, two := wheel.New(100), wheel.New(100)
	var all [][]int
	for i := range 300 {
		for _, w := range []*wheel.Wheel{one, two} {
			for id := range 12 {
				w.Add(i*100+id+1, 1+id%3*15)
			}
			w.Cancel(i*100 + 4)
			w.Cancel(i*100 + 7)
		}
		l, want := one.Tick(), two.Tick()
		for _, old := range all {
			for i := range old {
				old[i] = -5
			}
		}
		if !slices.Equal(l, want) || len(l) == 0 {
			t.Fatalf("%v, not %v", l, want)
		}
		for _, x := range l[len(l):cap(l)] {
			if x != 0 {
				t.Fatalf("%d lies behind %v", x, l)
			}
		}
		all = append(all, append(l, -7, -7))
		if one.Len() != two.Len() {
			t.Fatal(one.Len(), two.Len())
		}
	}
	third := wheel.New(1)
	if !third.Add(1, 1) || !slices.Equal(third.Tick(), []int{1}) {
		t.Error("two wheels share what is due")
	}
}
