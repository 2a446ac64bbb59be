package heap_test

import (
	"fmt"
	"math"
	"math/rand"
	"runtime"
	"slices"
	"testing"
	"weak"

	"brougham/heap"
)

// oddTimes: times at the bounds, and near to one another.
var oddTimes = []int{math.MinInt, math.MinInt + 1, -1 << 32, -2, -1, 0, 1, 2, 3, 1 << 31, 1 << 32, math.MaxInt - 1, math.MaxInt}

// oddMosts: how many things there may be, by what New is told.
var oddMosts = map[int]int{
	math.MinInt: 0, -65536: 0, -2: 0, -1: 0, 0: 0, 1: 1, 2: 2, 3: 3, 4: 4, 7: 7, 8: 8, 15: 15, 16: 16, 17: 17, 255: 255, 1000: 1000, 4096: 4096,
	65535: 65535, 65536: 65536, 65537: 65536, 65538: 65536, 1 << 17: 65536, 1 << 32: 65536, 1<<32 + 1: 65536, math.MaxInt: 65536,
}

// slow is a heap that keeps its things as they were put, and looks all of them over.
type slow[T any] struct {
	most int
	l    []heap.Item[T]
}

func newSlow[T any](most int) *slow[T] {
	if most < 0 {
		most = 0
	}
	if most > 65536 {
		most = 65536
	}
	return &slow[T]{most: most}
}

func (s *slow[T]) put(at int, what T) bool {
	if len(s.l) == s.most {
		return false
	}
	s.l = append(s.l, heap.Item[T]{At: at, What: what})
	return true
}

// place: where the thing stands that is first; -1 of none.
func (s *slow[T]) place() int {
	best := -1
	for i, x := range s.l {
		if best < 0 || x.At < s.l[best].At {
			best = i
		}
	}
	return best
}

func (s *slow[T]) first() (heap.Item[T], bool) {
	i := s.place()
	if i < 0 {
		return heap.Item[T]{}, false
	}
	return s.l[i], true
}

func (s *slow[T]) take() (heap.Item[T], bool) {
	x, ok := s.first()
	if ok {
		i := s.place()
		s.l = slices.Delete(s.l, i, i+1)
	}
	return x, ok
}

func (s *slow[T]) due(now int) []T {
	var l []T
	for {
		x, ok := s.first()
		if !ok || x.At > now {
			return l
		}
		s.take()
		l = append(l, x.What)
	}
}

// same: do both say the same, when they are looked at?
func same[T comparable](t *testing.T, h *heap.Heap[T], s *slow[T]) {
	t.Helper()
	if h.Len() != len(s.l) {
		t.Fatalf("Len: %d, not %d", h.Len(), len(s.l))
	}
	got, ok := h.First()
	if want, is := s.first(); got != want || ok != is {
		t.Fatalf("First: %v, %v, not %v, %v", got, ok, want, is)
	}
}

// take: what is first is taken of both.
func take[T comparable](t *testing.T, h *heap.Heap[T], s *slow[T]) {
	t.Helper()
	got, ok := h.Take()
	if want, is := s.take(); got != want || ok != is {
		t.Fatalf("Take: %v, %v, not %v, %v", got, ok, want, is)
	}
	same(t, h, s)
}

// put: something is put to both.
func put[T comparable](t *testing.T, h *heap.Heap[T], s *slow[T], at int, what T) {
	t.Helper()
	if got, want := h.Put(at, what), s.put(at, what); got != want {
		t.Fatalf("Put(%d, %v): %v, not %v", at, what, got, want)
	}
	same(t, h, s)
}

// due: all that is due by then goes out of both.
func due[T comparable](t *testing.T, h *heap.Heap[T], s *slow[T], now int) {
	t.Helper()
	if got, want := h.Due(now), s.due(now); !slices.Equal(got, want) {
		t.Fatalf("Due(%d): %v, not %v", now, got, want)
	}
	same(t, h, s)
}

// P42.1

func TestExample(t *testing.T) {
	h := heap.New[string](3)
	if !h.Put(5, "a") || !h.Put(3, "b") || !h.Put(5, "c") || !slices.Equal(h.Due(5), []string{"b", "a", "c"}) || h.Len() != 0 {
		t.Error(h.Len())
	}
}

func TestEmpty(t *testing.T) {
	for most := range oddMosts {
		h := heap.New[int](most)
		look := func() {
			x, ok := h.First()
			y, is := h.Take()
			if x != (heap.Item[int]{}) || ok || y != (heap.Item[int]{}) || is || h.Len() != 0 {
				t.Error(most, x, ok, y, is, h.Len())
			}
			for _, now := range oddTimes {
				if l := h.Due(now); len(l) != 0 {
					t.Error(most, now, l)
				}
			}
		}
		look()
		if h.Put(7, 9) { // empty again, when all was taken
			h.Take()
		}
		look()
		if h.Put(7, 9) {
			h.Due(7)
		}
		look()
	}
}

// As many things as may be, and one more: it isn't let in, whatever its time, and nothing is turned; when one went there is room for one again.
func TestMost(t *testing.T) {
	for most, want := range oddMosts {
		h := heap.New[int](most)
		for i := range want {
			if h.Len() != i || !h.Put(i%7, i) {
				t.Fatalf("New(%d): thing %d isn't let in", most, i)
			}
		}
		for _, at := range oddTimes {
			if h.Put(at, -1) || h.Len() != want {
				t.Fatalf("New(%d): %d things, and one more at %d", most, h.Len(), at)
			}
		}
		if want == 0 {
			continue
		}
		if x, ok := h.First(); x != (heap.Item[int]{At: 0, What: 0}) || !ok {
			t.Fatalf("New(%d): First: %v", most, x)
		}
		if x, ok := h.Take(); x != (heap.Item[int]{At: 0, What: 0}) || !ok || h.Len() != want-1 {
			t.Fatalf("New(%d): Take: %v", most, x)
		}
		if !h.Put(3, want) || h.Put(math.MinInt, -1) || h.Len() != want {
			t.Fatalf("New(%d): no thing in place of one that went", most)
		}
		var all []int
		for at := range 7 {
			for i := at; i < want; i += 7 {
				if i > 0 {
					all = append(all, i)
				}
			}
			if at == 3 {
				all = append(all, want)
			}
		}
		if l := h.Due(6); !slices.Equal(l, all) || h.Len() != 0 {
			t.Fatalf("New(%d): %d things came, not %d, or in another order", most, len(l), len(all))
		}
	}
}

// Each run of calls of five times, of three times that may be the same, with a look and some taken after each.
func TestEachRun(t *testing.T) {
	const long, kinds = 6, 5
	total := 1
	for range long {
		total *= kinds
	}
	for _, most := range []int{1, 2, 3, 9} {
		for run := range total {
			h, s := heap.New[int](most), newSlow[int](most)
			for i, rest := 0, run; i < long; i, rest = i+1, rest/kinds {
				switch k := rest % kinds; k {
				case 3:
					take(t, h, s)
				case 4:
					due(t, h, s, 0)
				default:
					put(t, h, s, k-1, i)
				}
			}
			due(t, h, s, 1)
		}
	}
}

// Each order of seven times, of which some are the same.
func TestOrders(t *testing.T) {
	for _, times := range [][]int{{0, 1, 2, 3, 4, 5, 6}, {0, 0, 1, 1, 2, 2, 2}, {5, 5, 5, 5, 5, 5, 4}, {math.MinInt, math.MinInt, -1, 0, 1, math.MaxInt, math.MaxInt}} {
		permute(times, func(order []int) {
			h, s := heap.New[int](len(times)), newSlow[int](len(times))
			for i, at := range order {
				put(t, h, s, at, i)
			}
			for range len(times) + 1 {
				take(t, h, s)
			}
		})
	}
}

// permute: each order of some numbers.
func permute(l []int, do func([]int)) {
	var from func(int)
	l = slices.Clone(l)
	from = func(at int) {
		if at == len(l) {
			do(l)
			return
		}
		for i := at; i < len(l); i++ {
			l[at], l[i] = l[i], l[at]
			from(at + 1)
			l[at], l[i] = l[i], l[at]
		}
	}
	from(0)
}

// Due at the bounds takes just what isn't above.
func TestDue(t *testing.T) {
	for _, now := range oddTimes {
		h, s := heap.New[string](100), newSlow[string](100)
		for i := range 3 {
			for _, at := range oddTimes {
				put(t, h, s, at, fmt.Sprint(at, i))
				put(t, h, s, -at, fmt.Sprint(-at, i, "less"))
			}
		}
		due(t, h, s, now)
		due(t, h, s, now)
		for range h.Len() + 1 {
			take(t, h, s)
		}
	}
}

func TestDrawn(t *testing.T) {
	r := rand.New(rand.NewSource(1))
	for round := range 400 {
		most := r.Intn(150)
		wide := []int{1, 2, 5, 50, 100000}[r.Intn(5)]
		puts := 3 + r.Intn(6)
		h, s := heap.New[int](most), newSlow[int](most)
		base := []int{0, -wide / 2, math.MinInt, math.MaxInt - wide}[round%4]
		for i := range 500 {
			switch x := r.Intn(10); {
			case x < puts:
				put(t, h, s, base+r.Intn(wide), i)
			case x < 9:
				take(t, h, s)
			default:
				due(t, h, s, base+r.Intn(wide)/(1+r.Intn(4)))
			}
		}
		due(t, h, s, math.MaxInt)
	}
}

// P42.2

// As many things as may be, of drawn times, come out by their times, of the same time as they were put, each once; by Take and by Due.
func TestOut(t *testing.T) {
	const many = 65536
	r := rand.New(rand.NewSource(2))
	for _, wide := range []int{1, 2, 300, 1 << 40} {
		one, all := heap.New[int](many), heap.New[int](many)
		var want []heap.Item[int]
		for i := range many {
			at := r.Intn(wide) - wide/2
			if !one.Put(at, i) || !all.Put(at, i) {
				t.Fatal(i)
			}
			want = append(want, heap.Item[int]{At: at, What: i})
		}
		slices.SortStableFunc(want, func(x, y heap.Item[int]) int {
			if x.At < y.At {
				return -1
			}
			if x.At > y.At {
				return 1
			}
			return 0
		})
		l := all.Due(math.MaxInt)
		if len(l) != many || all.Len() != 0 {
			t.Fatal(len(l))
		}
		for i, x := range want {
			if got, ok := one.Take(); got != x || !ok || l[i] != x.What {
				t.Fatalf("%d: %v, %v and %d, not %v", i, got, ok, l[i], x)
			}
		}
		if _, ok := one.Take(); ok {
			t.Error("more came than were put")
		}
	}
}

// Things that come and go for long: of the same time still as they were put.
func TestLong(t *testing.T) {
	h := heap.New[int](5)
	for i := range 4 {
		h.Put(1, i)
	}
	for i := 4; i < 200000; i++ {
		if !h.Put(1, i) {
			t.Fatal(i)
		}
		if x, ok := h.Take(); x.What != i-4 || !ok {
			t.Fatalf("%v, not %d", x, i-4)
		}
	}
}

// P1, P2

// Things of any type are handed out as they were put: also nil ones, and such as can't be held against one another.
func TestTypes(t *testing.T) {
	type pair struct {
		name string
		l    []int
	}
	a, n := []int{1, 2}, 5
	lists := heap.New[[]int](3)
	lists.Put(2, a)
	lists.Put(1, nil)
	if l := lists.Due(2); len(l) != 2 || l[0] != nil || &l[1][0] != &a[0] {
		t.Error(l)
	}
	pairs := heap.New[pair](1)
	pairs.Put(2, pair{"x", a})
	if x, ok := pairs.Take(); x.At != 2 || x.What.name != "x" || len(x.What.l) != 2 || !ok {
		t.Error(x)
	}
	if x, ok := pairs.Take(); x.At != 0 || x.What.name != "" || x.What.l != nil || ok {
		t.Error(x)
	}
	pointers := heap.New[*int](2)
	pointers.Put(0, &n)
	pointers.Put(0, nil)
	if x, ok := pointers.First(); x.What != &n || !ok {
		t.Error(x)
	}
	if l := pointers.Due(0); len(l) != 2 || l[0] != &n || l[1] != nil {
		t.Error(l)
	}
	calls := heap.New[func() int](2)
	calls.Put(9, func() int { return 9 })
	calls.Put(8, func() int { return 8 })
	if l := calls.Due(9); len(l) != 2 || l[0]() != 8 || l[1]() != 9 {
		t.Error(len(l))
	}
	anys := heap.New[any](4)
	for _, x := range []any{math.NaN(), a, nil, "x"} {
		anys.Put(1, x)
	}
	if l := anys.Due(1); len(l) != 4 || l[2] != nil || l[3] != "x" {
		t.Error(l)
	}
	empties := heap.New[struct{}](2)
	if !empties.Put(1, struct{}{}) || !empties.Put(1, struct{}{}) || empties.Put(1, struct{}{}) || len(empties.Due(1)) != 2 {
		t.Error(empties.Len())
	}
}

// Each call takes any argument; looking changes nothing; what is answered shares no memory with another answer, and no heap matters to another one.
func TestAlone(t *testing.T) {
	for most := range oddMosts {
		one, two := heap.New[int](most), heap.New[int](most)
		for i, at := range oddTimes {
			if one.Put(at, i) != two.Put(at, i) {
				t.Fatal(most, at)
			}
		}
		for _, now := range oddTimes {
			many := two.Len()
			x, ok := two.First()
			first := one.Due(now)
			if y, is := two.First(); x != y || ok != is || two.Len() != many {
				t.Fatal(most, now)
			}
			_ = append(first, 1, 2, 3)
			if second := two.Due(now); !slices.Equal(first, second) {
				t.Fatal(most, now, first, second)
			}
			old := slices.Clone(first)
			one.Put(now, 99)
			if two.Put(now, 99); len(one.Due(now)) > 1 || len(two.Due(now)) > 1 || !slices.Equal(first, old) {
				t.Fatal(most, now)
			}
		}
	}
}

// What lies behind an answer's length isn't handed out: nothing of what was taken ahead, or of what is kept.
func TestBehind(t *testing.T) {
	h := heap.New[int](100)
	for i := range 100 {
		h.Put(i, i+1)
	}
	for now := 0; now < 100; now += 9 {
		l := h.Due(now)
		for _, x := range l[len(l):cap(l)] {
			if x != 0 {
				t.Fatalf("Due(%d): %d lies behind", now, x)
			}
		}
		l = append(l, 7, 7, 7)
		clear(l)
		if x, ok := h.First(); ok && x != (heap.Item[int]{At: now + 1, What: now + 2}) {
			t.Fatalf("Due(%d): then %v", now, x)
		}
	}
}

// What came out isn't kept: nothing but who took it holds it any more.
func TestGone(t *testing.T) {
	h := heap.New[*[100]int](10)
	var gone []weak.Pointer[[100]int]
	for i := range 10 {
		x := new([100]int)
		gone = append(gone, weak.Make(x))
		h.Put(i, x)
	}
	for range 3 {
		h.Take()
	}
	h.Due(6)
	held := 0
	for range 20 {
		runtime.GC()
		held = 0
		for _, p := range gone[:7] {
			if p.Value() != nil {
				held++
			}
		}
		if held == 0 {
			break
		}
	}
	if held > 0 || h.Len() != 3 {
		t.Errorf("%d of 7 that came out are kept, of %d there", held, h.Len())
	}
	for i, p := range gone[7:] {
		if x, ok := h.Take(); !ok || x.What != p.Value() || x.What == nil {
			t.Errorf("%d isn't what was put", i+7)
		}
	}
}
