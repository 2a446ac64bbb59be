package quar_test

import (
	"math"
	"math/big"
	"math/rand"
	"testing"

	"brougham/quar"
)

// odd: numbers at the bounds, next to them, and such as go round when they are added or multiplied.
var odd = []int{
	math.MinInt, math.MinInt + 1, -1 << 32, -4097, -4096, -8, -2, -1, 0, 1, 2, 3, 4, 7, 8, 9, 15, 16, 17, 63, 64, 65, 1000, 1023, 1024, 1025, 2048,
	4088, 4095, 4096, 4097, 4098, 8192, 16384, 32768, 1 << 17, 1<<31 - 1, 1 << 31, 1 << 32, 1<<32 + 1, 1 << 48, 1 << 61, 1 << 62, math.MaxInt - 1, math.MaxInt,
}

// within: the nearer bound of what isn't from low to 4096.
func within(low, n int) *big.Int {
	if n < low {
		return big.NewInt(int64(low))
	}
	if n > 4096 {
		return big.NewInt(4096)
	}
	return big.NewInt(int64(n))
}

// slow is a score that reckons in numbers of any size, and takes each tick by itself.
type slow struct {
	limit, points *big.Int
	ticks         int
}

func newSlow(limit int) *slow { return &slow{limit: within(1, limit), points: big.NewInt(0)} }

func (s *slow) top() *big.Int { return new(big.Int).Mul(s.limit, big.NewInt(4)) }

func (s *slow) add(weight int) {
	s.points = new(big.Int).Add(s.points, within(0, weight))
	if s.points.Cmp(s.top()) > 0 {
		s.points = s.top()
	}
}

func (s *slow) tick(n int) {
	for range within(0, n).Int64() {
		s.ticks++
		if s.ticks%8 == 0 && s.points.Sign() > 0 {
			s.points = new(big.Int).Sub(s.points, big.NewInt(1))
		}
	}
}

func (s *slow) good() { s.points = new(big.Int).Div(s.points, big.NewInt(2)) }

// same: do both scores say the same, and what they may say?
func same(t *testing.T, q *quar.Score, s *slow, told ...int) {
	t.Helper()
	points, bad := int(s.points.Int64()), s.points.Cmp(s.limit) >= 0
	if q.Points() != points || q.Bad() != bad {
		t.Fatalf("%v (limit %d): Points %d, Bad %v, not %d, %v", told, s.limit, q.Points(), q.Bad(), points, bad)
	}
	if q.Points() < 0 || q.Points() > int(s.top().Int64()) {
		t.Fatalf("%v (limit %d): Points %d", told, s.limit, q.Points())
	}
}

// is: a score's points, held against a limit.
func is(t *testing.T, q *quar.Score, limit, points int) {
	t.Helper()
	if q.Points() != points || q.Bad() != (points >= limit) {
		t.Fatalf("limit %d: Points %d, Bad %v, not %d", limit, q.Points(), q.Bad(), points)
	}
}

// with: a score that has so many points.
func with(limit, points int) *quar.Score {
	q := quar.New(limit)
	for points > 0 {
		q.Add(min(points, 4096))
		points -= min(points, 4096)
	}
	return q
}

func TestNumbers(t *testing.T) {
	if quar.BadTag != 4 || quar.Outside != 1 || quar.Timeout != 2 {
		t.Error(quar.BadTag, quar.Outside, quar.Timeout)
	}
}

func TestExample(t *testing.T) {
	q := quar.New(4)
	q.Add(4)
	is(t, q, 4, 4)
	q.Tick(8)
	is(t, q, 4, 3)
}

// P14.1

// A new score has no points, and isn't bad; it is from just as many points as the limit on.
func TestNew(t *testing.T) {
	limits := append([]int{}, odd...)
	for limit := -3; limit < 4100; limit++ {
		limits = append(limits, limit)
	}
	for _, limit := range limits {
		near := min(max(limit, 1), 4096)
		q := quar.New(limit)
		is(t, q, near, 0)
		q.Add(near - 1)
		is(t, q, near, near-1)
		q.Add(1)
		is(t, q, near, near)
		q.Add(1)
		is(t, q, near, near+1)
	}
}

// Points go up to four times the limit, by one or at once, and no further.
func TestMost(t *testing.T) {
	for _, limit := range []int{-1, 0, 1, 2, 3, 100, 1023, 1024, 1025, 4095, 4096, 4097} {
		near := min(max(limit, 1), 4096)
		q := with(limit, 4*near-1)
		is(t, q, near, 4*near-1)
		for range 3 {
			q.Add(1)
			is(t, q, near, 4*near)
		}
		for range 3 {
			q.Add(math.MaxInt)
			is(t, q, near, 4*near)
		}
		q = with(limit, 4*near-1)
		q.Add(2)
		is(t, q, near, 4*near)
	}
}

// Each limit with each weight, of no points and of some, then each number of ticks.
func TestBounds(t *testing.T) {
	for _, limit := range odd {
		for _, weight := range odd {
			for _, n := range odd {
				q, s := quar.New(limit), newSlow(limit)
				for range 3 {
					q.Add(weight)
					s.add(weight)
					same(t, q, s, weight)
				}
				q.Tick(n)
				s.tick(n)
				same(t, q, s, weight, n)
				q.Add(weight)
				s.add(weight)
				same(t, q, s, weight, n, weight)
			}
		}
	}
}

// Worked out by hand: points after each number of ticks; those of more than MaxTicks are MaxTicks, which take 512 points.
func TestTick(t *testing.T) {
	q := with(1000, 2000)
	for _, x := range [][2]int{
		{7, 2000}, {1, 1999}, {0, 1999}, {-1, 1999}, {math.MinInt, 1999}, {8, 1998}, {9, 1997}, {6, 1997}, {1, 1996}, {15, 1995}, {1, 1994}, {17, 1992}, {7, 1991},
		{4096, 1479}, {4097, 967}, {math.MaxInt, 455}, {4095, 0},
	} {
		q.Tick(x[0])
		is(t, q, 1000, x[1])
	}
}

// Each few points with each few ticks in two steps: ticks that took no point away count on, the eights that found none are gone.
func TestEach(t *testing.T) {
	for limit := 1; limit < 4; limit++ {
		for points := 0; points <= 4*limit; points++ {
			for one := range 40 {
				for two := range 20 {
					q, s := with(limit, points), newSlow(limit)
					s.add(points)
					q.Tick(one)
					s.tick(one)
					same(t, q, s, points, one)
					q.Add(1)
					s.add(1)
					same(t, q, s, points, one)
					q.Tick(two)
					s.tick(two)
					same(t, q, s, points, one, two)
				}
			}
		}
	}
}

// Ticks ahead of all points: seven wait for one more, but none of the eights that found no point takes one away later.
func TestTickOfNone(t *testing.T) {
	for ahead := range 100 {
		q := quar.New(10)
		q.Tick(ahead)
		is(t, q, 10, 0)
		q.Add(5)
		is(t, q, 10, 5)
		q.Tick(0)
		is(t, q, 10, 5)
		q.Tick(7 - ahead%8)
		is(t, q, 10, 5)
		q.Tick(1)
		is(t, q, 10, 4)
	}
}

// Half of each number of points, rounded down; what waited to count still does.
func TestGood(t *testing.T) {
	for _, limit := range []int{1, 2, 5, 64, 4096} {
		for points := 0; points <= 4*limit; points++ {
			q := with(limit, points)
			q.Tick(7)
			q.Good()
			is(t, q, limit, points/2)
			q.Tick(1)
			is(t, q, limit, max(points/2-1, 0))
		}
	}
	q := with(4096, 16384)
	for points := 8192; points > 0; points /= 2 {
		q.Good()
		is(t, q, 4096, points)
	}
	for range 3 {
		q.Good()
		is(t, q, 4096, 0)
	}
}

// Neither Good nor Add makes ticks count that didn't, nor forgets them.
func TestRest(t *testing.T) {
	for rest := range 8 {
		q := with(10, 30)
		q.Tick(rest)
		q.Good()
		q.Add(3)
		q.Good()
		q.Add(-1)
		is(t, q, 10, 9)
		q.Tick(7 - rest)
		is(t, q, 10, 9)
		q.Tick(1)
		is(t, q, 10, 8)
	}
}

// Ticks at once are as good as one by one.
func TestTicks(t *testing.T) {
	r := rand.New(rand.NewSource(1))
	for range 2000 {
		limit, points, ahead, n := r.Intn(100), r.Intn(400), r.Intn(20), r.Intn(4097)
		one, all := with(limit, points), with(limit, points)
		for _, q := range []*quar.Score{one, all} {
			q.Tick(ahead)
		}
		for range n {
			one.Tick(1)
		}
		all.Tick(n)
		for range 9 { // what didn't count yet is the same, too
			if one.Points() != all.Points() || one.Bad() != all.Bad() {
				t.Fatalf("New(%d), %d points, %d and %d ticks: %d, not %d", limit, points, ahead, n, all.Points(), one.Points())
			}
			one.Tick(1)
			all.Tick(1)
		}
	}
}

// Calls in drawn orders, of few ticks, of many, and past the bounds.
func TestDrawn(t *testing.T) {
	r := rand.New(rand.NewSource(2))
	for range 2000 {
		limit := r.Intn([]int{3, 20, 5000}[r.Intn(3)])
		if r.Intn(20) == 0 {
			limit = odd[r.Intn(len(odd))]
		}
		q, s := quar.New(limit), newSlow(limit)
		most := []int{3, 20, 5000}[r.Intn(3)]
		for range 200 {
			n := r.Intn(most)
			if r.Intn(20) == 0 {
				n = odd[r.Intn(len(odd))]
			}
			switch r.Intn(8) {
			case 0:
				q.Good()
				s.good()
			case 1, 2, 3:
				n = min(n, 40)
				q.Tick(n)
				s.tick(n)
			default:
				q.Add(n)
				s.add(n)
			}
			same(t, q, s, n)
		}
	}
}

// P14.2

// From each state on, thirty-two times the limit of ticks leave nothing, in whatever steps they come, and whether Good comes between them.
func TestForgotten(t *testing.T) {
	r := rand.New(rand.NewSource(3))
	for limit := 1; limit <= 4096; limit += 1 + limit/7*r.Intn(3) {
		for round := range 6 {
			q := quar.New(limit)
			q.Tick(r.Intn(100))
			for range 1 + r.Intn(5) {
				q.Add(r.Intn(5 * limit))
				q.Tick(r.Intn(20))
			}
			if round == 0 {
				for range 4 {
					q.Add(limit)
				}
			}
			for left := 32 * limit; left > 0; {
				n := min(1+r.Intn(4096), left)
				q.Tick(n)
				left -= n
				if round > 3 && r.Intn(9) == 0 {
					q.Good()
				}
			}
			is(t, q, limit, 0)
		}
	}
}

// It isn't fewer: of all points that may be the last one goes with the last tick.
func TestForgottenLast(t *testing.T) {
	for _, limit := range []int{1, 2, 3, 4, 100, 128, 129, 1000, 4095, 4096} {
		q := with(limit, 4*limit)
		for left := 32*limit - 1; left > 0; left -= min(left, 4096) {
			q.Tick(min(left, 4096))
		}
		is(t, q, limit, 1)
		q.Tick(1)
		is(t, q, limit, 0)
	}
}

// P1, P2

// Looking changes nothing, and no score matters to another one.
func TestAlone(t *testing.T) {
	for _, limit := range odd {
		one, two := with(limit, 3), with(limit, 3)
		one.Tick(5)
		points, bad := one.Points(), one.Bad()
		for _, n := range odd {
			two.Add(n)
			two.Tick(n)
			two.Good()
		}
		if one.Points() != points || one.Bad() != bad {
			t.Fatalf("New(%d): %d, then %d", limit, points, one.Points())
		}
		one.Tick(3)
		if one.Points() != points-1 {
			t.Fatalf("New(%d), eight ticks: %d, then %d", limit, points, one.Points())
		}
	}
}

// The same calls answer the same once more.
func TestOnceMore(t *testing.T) {
	play := func() []int {
		r, q, said := rand.New(rand.NewSource(4)), quar.New(50), []int{}
		for range 5000 {
			switch n := r.Intn(60) - 9; r.Intn(4) {
			case 0:
				q.Good()
			case 1:
				q.Add(n)
			default:
				q.Tick(n)
			}
			said = append(said, q.Points())
		}
		return said
	}
	one, two := play(), play()
	for i := range one {
		if one[i] != two[i] {
			t.Fatal(i)
		}
	}
}
