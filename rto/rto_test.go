package rto_test

import (
	"math"
	"math/rand"
	"testing"

	"brougham/rto"
)

// odd: numbers of ticks at the bounds, next to them, and such as go round when they are multiplied.
var odd = []int{
	math.MinInt, math.MinInt + 1, -1 << 32, -4097, -4096, -8, -2, -1, 0, 1, 2, 3, 7, 8, 9, 84, 85, 86, 255, 256, 257, 511, 512, 4094, 4095, 4096, 4097, 4098, 8192,
	1 << 15, 1 << 16, 1<<31 - 1, 1 << 31, 1 << 32, 1<<32 + 1, 1 << 59, 1 << 60, 1 << 61, 1 << 62, math.MaxInt - 1, math.MaxInt,
}

// slow is an estimate that reckons by fractions, each of them cut towards 0, and doubles one by one.
type slow struct {
	known       bool
	eight, four float64
	backs       int
}

func (s *slow) sample(ticks int) {
	t := math.Min(math.Max(float64(ticks), 0), 4096)
	s.backs = 0
	if !s.known {
		*s = slow{known: true, eight: 8 * t, four: 2 * t}
		return
	}
	d := t - math.Trunc(s.eight*0.125)
	s.eight = math.Max(s.eight+d, 0)
	s.four = math.Max(s.four+math.Abs(d)-math.Trunc(s.four*0.25), 0)
}

func (s *slow) back() {
	if s.backs < 8 {
		s.backs++
	}
}

func (s *slow) patience() int {
	wait := 8.0
	if s.known {
		more := s.four
		if more == 0 {
			more = 1
		}
		wait = math.Max(math.Trunc(s.eight*0.125)+more, 2)
	}
	for range s.backs {
		wait *= 2
	}
	return int(math.Min(wait, 256))
}

func (s *slow) mean() int {
	if !s.known {
		return 8
	}
	return int(math.Max(math.Trunc(s.eight*0.125), 1))
}

// same: do both estimates say the same, and what they may say?
func same(t *testing.T, e *rto.Est, s *slow, told ...int) {
	t.Helper()
	if e.Patience() != s.patience() || e.Mean() != s.mean() || e.Backs() != s.backs {
		t.Fatalf("%v: Patience %d, Mean %d, Backs %d, not %d, %d, %d", told, e.Patience(), e.Mean(), e.Backs(), s.patience(), s.mean(), s.backs)
	}
	if p := e.Patience(); p < rto.Least || p > rto.Most || e.Mean() < 1 || e.Mean() > 4096 || e.Backs() < 0 || e.Backs() > 8 {
		t.Fatalf("%v: Patience %d, Mean %d, Backs %d", told, p, e.Mean(), e.Backs())
	}
}

// of: an estimate to which these samples came.
func of(samples ...int) rto.Est {
	e := rto.Est{}
	for _, n := range samples {
		e.Sample(n)
	}
	return e
}

// slowOf: the slow one of them.
func slowOf(samples ...int) slow {
	s := slow{}
	for _, n := range samples {
		s.sample(n)
	}
	return s
}

func TestExample(t *testing.T) {
	e := rto.Est{}
	if e.Patience() != 8 {
		t.Error(e.Patience())
	}
	e.Sample(10)
	if e.Patience() != 30 {
		t.Error(e.Patience())
	}
	e.Back()
	if e.Patience() != 60 {
		t.Error(e.Patience())
	}
}

func TestNumbers(t *testing.T) {
	if rto.Least != 2 || rto.First != 8 || rto.Most != 256 {
		t.Error(rto.Least, rto.First, rto.Most)
	}
}

// P12.1

// Worked out by hand: the eightfold mean and the fourfold deviation behind each sample stand beside it.
func TestSample(t *testing.T) {
	for _, x := range []struct {
		samples        []int
		patience, mean int
	}{
		{[]int{10}, 30, 10},               // 80, 20
		{[]int{10, 18}, 34, 11},           // 88, 23
		{[]int{10, 18, 11}, 29, 11},       // 88, 18
		{[]int{10, 18, 11, 10}, 25, 10},   // 87, 15
		{[]int{10, 18, 11, 10, 0}, 31, 9}, // 77, 22
		{[]int{10, 10, 10}, 22, 10},       // 80, 15; 80, 12
		{[]int{10, 2}, 32, 9},             // 72, 23
		{[]int{10, 0}, 33, 8},             // 70, 25
		{[]int{0}, 2, 1},                  // 0, 0
		{[]int{0, 1}, 2, 1},               // 1, 1
		{[]int{0, 1, 1}, 2, 1},            // 2, 2
		{[]int{0, 1, 1, 1}, 3, 1},         // 3, 3
		{[]int{0, 7}, 7, 1},               // 7, 7
		{[]int{0, 8}, 9, 1},               // 8, 8
		{[]int{0, 16}, 18, 2},             // 16, 16
		{[]int{1}, 3, 1},                  // 8, 2
		{[]int{1, 0}, 3, 1},               // 7, 3
		{[]int{1, 0, 0}, 3, 1},            // 7, 3
		{[]int{2, 2, 2}, 5, 2},            // 16, 3; it stays there
		{[]int{85}, 255, 85},              // 680, 170
		{[]int{86}, 256, 86},              // 688, 172
		{[]int{4096}, 256, 4096},          // 32768, 8192
		{[]int{4096, 0}, 256, 3584},       // 28672, 10240
		{[]int{0, 4096}, 256, 512},        // 4096, 4096
		{[]int{0, 255}, 256, 31},          // 255, 255
		{[]int{0, 227}, 255, 28},          // 227, 227
	} {
		e := of(x.samples...)
		if e.Patience() != x.patience || e.Mean() != x.mean || e.Backs() != 0 {
			t.Errorf("%v: Patience %d, Mean %d, not %d, %d", x.samples, e.Patience(), e.Mean(), x.patience, x.mean)
		}
	}
}

// Each first sample: its mean is the sample itself, and one waits three times as long.
func TestFirst(t *testing.T) {
	for n := range 4097 {
		e := of(n)
		if e.Mean() != max(n, 1) || e.Patience() != min(max(3*n, 2), 256) || e.Backs() != 0 {
			t.Fatalf("%d: Patience %d, Mean %d", n, e.Patience(), e.Mean())
		}
	}
}

// What isn't from 0 to MaxTicks counts as the nearer bound: whatever came ahead of it, and for all that comes behind it.
func TestNearer(t *testing.T) {
	for _, ahead := range [][]int{nil, {0}, {1}, {10, 18}, {4096}, {300, 0, 5}} {
		for _, n := range odd {
			one, two := of(ahead...), of(ahead...)
			s := slowOf(ahead...)
			one.Sample(n)
			two.Sample(min(max(n, 0), 4096))
			s.sample(n)
			same(t, &one, &s, append(ahead[:len(ahead):len(ahead)], n)...)
			for range 60 {
				if one != two {
					t.Fatalf("%v, %d: not as its nearer bound", ahead, n)
				}
				one.Sample(3)
				two.Sample(3)
				s.sample(3)
				same(t, &one, &s, n)
			}
		}
	}
}

// Each three small samples, and each three at the bounds.
func TestEach(t *testing.T) {
	small := make([]int, 34)
	for i := range small {
		small[i] = i
	}
	for _, l := range [][]int{small, odd} {
		for _, a := range l {
			for _, b := range l {
				for _, c := range l {
					e, s := of(a, b, c), slowOf(a, b, c)
					same(t, &e, &s, a, b, c)
				}
			}
		}
	}
}

// A deviation of which Patience tells nothing, as it is past Most, is there all the same: it comes down from there.
func TestDown(t *testing.T) {
	for _, first := range []int{100, 1000, 4095, 4096} {
		for _, then := range []int{0, 1, 2, 50, 100, 200} {
			e, s := of(first), slowOf(first)
			for i := range 200 {
				same(t, &e, &s, first, then, i)
				e.Sample(then)
				s.sample(then)
			}
		}
	}
}

// A sample, of whichever ticks, ends the doubling.
func TestSampleEndsBacks(t *testing.T) {
	for _, ahead := range [][]int{nil, {0}, {10}, {4096}} {
		for _, n := range odd {
			for backs := range 12 {
				one, two := of(ahead...), of(ahead...)
				for range backs {
					one.Back()
				}
				one.Sample(n)
				two.Sample(n)
				if one.Backs() != 0 || one.Patience() != two.Patience() || one.Mean() != two.Mean() {
					t.Fatalf("%v, %d times Back, %d: Backs %d, Patience %d, Mean %d", ahead, backs, n, one.Backs(), one.Patience(), one.Mean())
				}
				one.Back()
				if one.Backs() != 1 {
					t.Fatalf("%v, %d times Back, %d, Back: Backs %d", ahead, backs, n, one.Backs())
				}
			}
		}
	}
}

// P12.2

// Back counts up to 8, and stays there.
func TestBack(t *testing.T) {
	for _, ahead := range [][]int{nil, {0}, {10}, {4096}} {
		e := of(ahead...)
		mean := e.Mean()
		for i := range 2000 {
			if e.Backs() != min(i, 8) || e.Mean() != mean {
				t.Fatalf("%v, %d times Back: Backs %d, Mean %d", ahead, i, e.Backs(), e.Mean())
			}
			e.Back()
		}
	}
}

// P12.3

// Doubled as often as there was Back, from at least Least on, up to Most.
func TestPatience(t *testing.T) {
	for _, x := range []struct {
		samples []int
		want    []int
	}{
		{nil, []int{8, 16, 32, 64, 128, 256, 256, 256, 256, 256, 256}},
		{[]int{0}, []int{2, 4, 8, 16, 32, 64, 128, 256, 256, 256, 256}},
		{[]int{1}, []int{3, 6, 12, 24, 48, 96, 192, 256, 256, 256, 256}},
		{[]int{2}, []int{6, 12, 24, 48, 96, 192, 256, 256, 256, 256, 256}},
		{[]int{10}, []int{30, 60, 120, 240, 256, 256, 256, 256, 256, 256, 256}},
		{[]int{43}, []int{129, 256, 256, 256, 256, 256, 256, 256, 256, 256, 256}},
		{[]int{4096}, []int{256, 256, 256, 256, 256, 256, 256, 256, 256, 256, 256}},
	} {
		e := of(x.samples...)
		for i, want := range x.want {
			if e.Patience() != want {
				t.Errorf("%v, %d times Back: %d, not %d", x.samples, i, e.Patience(), want)
			}
			e.Back()
		}
	}
}

// Of an estimate of which nothing is known Mean is First, however often there was Back; a first sample counts as one then, too.
func TestNothingKnown(t *testing.T) {
	for backs := range 12 {
		e := rto.Est{}
		for range backs {
			e.Back()
		}
		if e.Mean() != 8 || e.Patience() != min(8<<backs, 256) {
			t.Errorf("%d times Back: Patience %d, Mean %d", backs, e.Patience(), e.Mean())
		}
		e.Sample(40)
		if e.Mean() != 40 || e.Patience() != 120 {
			t.Errorf("%d times Back, 40: Patience %d, Mean %d", backs, e.Patience(), e.Mean())
		}
	}
}

// Mean has no bound above but MaxTicks, and none of Back's doubling.
func TestMean(t *testing.T) {
	for _, x := range [][2]int{{-1, 1}, {0, 1}, {1, 1}, {2, 2}, {256, 256}, {257, 257}, {4095, 4095}, {4096, 4096}, {4097, 4096}, {math.MaxInt, 4096}, {math.MinInt, 1}} {
		e := of(x[0])
		e.Back()
		if e.Mean() != x[1] {
			t.Errorf("%d: %d, not %d", x[0], e.Mean(), x[1])
		}
	}
}

// Calls in drawn orders, of few ticks, of many, and past the bounds.
func TestDrawn(t *testing.T) {
	r := rand.New(rand.NewSource(1))
	for range 3000 {
		e, s := rto.Est{}, slow{}
		most := []int{2, 12, 100, 300, 4200}[r.Intn(5)]
		for range 200 {
			n := r.Intn(most)
			switch r.Intn(8) {
			case 0, 1:
				e.Back()
				s.back()
			case 2:
				if r.Intn(6) == 0 {
					n = odd[r.Intn(len(odd))]
				}
				fallthrough
			default:
				e.Sample(n)
				s.sample(n)
			}
			same(t, &e, &s, n)
		}
	}
}

// P12.4

// What Patience comes to with the same sample again and again. As divisions are rounded towards 0, a fourfold deviation of 3 less the fourth part of it is 3 again: it is that much more than the sample then, where it isn't less already.
func settled(n, deviation int) int { return min(max(n+max(deviation, 1), 2), 256) }

// The same sample again and again, whatever came ahead of it: Mean comes to it, Patience to at least one more and at most three, and both stay there.
func TestSettles(t *testing.T) {
	for _, ahead := range [][]int{nil, {0}, {1}, {0, 1}, {4096}, {100, 7, 300}, {4096, 0, 4096, 0}} {
		for n := range 4097 {
			e := of(ahead...)
			for range 150 {
				e.Sample(n)
			}
			still := e
			for range 20 {
				if p := e.Patience(); e != still || e.Mean() != max(n, 1) || p < settled(n, 1) || p > settled(n, 3) {
					t.Fatalf("%v, then %d: Patience %d, Mean %d", ahead, n, p, e.Mean())
				}
				e.Sample(n)
			}
		}
	}
}

// From the beginning on each sample from 2 on leaves a deviation of 3, one of 1 leaves 2, one of 0 none.
func TestSettlesFromFirst(t *testing.T) {
	for n := range 4097 {
		e := of(n)
		for range 150 {
			e.Sample(n)
		}
		want := settled(n, min(2*n, 3))
		if e.Patience() != want {
			t.Fatalf("%d: Patience %d, not %d", n, e.Patience(), want)
		}
		e.Back()
		if e.Patience() != min(2*want, 256) {
			t.Fatalf("%d, Back: Patience %d", n, e.Patience())
		}
	}
}

// P1, P2

// Looking changes nothing, and no estimate matters to another one, nor to what it was copied of.
func TestAlone(t *testing.T) {
	for _, n := range odd {
		one, two := of(n), of(n)
		copied := one
		patience, mean := one.Patience(), one.Mean()
		for _, m := range odd {
			two.Sample(m)
			two.Back()
			copied.Back()
			copied.Sample(m)
		}
		if one != of(n) || one.Patience() != patience || one.Mean() != mean || one.Backs() != 0 {
			t.Fatalf("%d: Patience %d, Mean %d, Backs %d", n, one.Patience(), one.Mean(), one.Backs())
		}
	}
}

// The same calls answer the same once more.
func TestOnceMore(t *testing.T) {
	play := func() []int {
		r, e, said := rand.New(rand.NewSource(2)), rto.Est{}, []int{}
		for range 5000 {
			if r.Intn(4) == 0 {
				e.Back()
			} else {
				e.Sample(r.Intn(5000) - 400)
			}
			said = append(said, e.Patience(), e.Mean(), e.Backs())
		}
		return said
	}
	one, two := play(), play()
	for i := range one {
		if one[i] != two[i] {
			t.Fatal(i)
		}
	}
}
