package quota_test

import (
	"math"
	"math/big"
	"math/rand"
	"testing"

	"brougham/quota"
)

// odd: numbers at the bounds, next to them, and such as go round when they are added.
var odd = []int{
	math.MinInt, math.MinInt + 1, -1 << 32, -1 << 31, -1<<31 - 1, -1 << 30, -2, -1, 0, 1, 2, 3, 5, 6, 7, 10, 11, 100, 4096, 1 << 29, 1<<30 - 1, 1 << 30, 1<<30 + 1,
	1<<31 - 1, 1 << 31, 1 << 32, 1<<32 + 1, 1 << 48, 1 << 62, math.MaxInt - 1, math.MaxInt,
}

func num(n int) *big.Int { return big.NewInt(int64(n)) }

func plus(a, b *big.Int) *big.Int { return new(big.Int).Add(a, b) }

// near: the nearer bound of what isn't from 0 to 2^30.
func near(n int) int { return min(max(n, 0), 1<<30) }

// slow is a pool that reckons in numbers of any size, and counts all that is used anew each time.
type slow struct {
	all, each *big.Int
	has       map[int]*big.Int
}

func newSlow(all, each int) *slow { return &slow{num(near(all)), num(near(each)), map[int]*big.Int{}} }

func (s *slow) of(owner int) *big.Int {
	if n := s.has[owner]; n != nil {
		return n
	}
	return num(0)
}

func (s *slow) used() (used, owners int) {
	sum := num(0)
	for _, n := range s.has {
		sum = plus(sum, n)
		owners += n.Sign()
	}
	return int(sum.Int64()), owners
}

func (s *slow) take(owner, n int) bool {
	used, _ := s.used()
	if n < 0 || plus(s.of(owner), num(n)).Cmp(s.each) > 0 || plus(num(used), num(n)).Cmp(s.all) > 0 {
		return false
	}
	s.has[owner] = plus(s.of(owner), num(n))
	return true
}

func (s *slow) give(owner, n int) int {
	has := s.of(owner)
	switch {
	case n < 0:
		n = 0
	case num(n).Cmp(has) > 0:
		n = int(has.Int64())
	}
	s.has[owner] = new(big.Int).Sub(has, num(n))
	return n
}

func (s *slow) move(from, to, n int) bool {
	if n < 0 || num(n).Cmp(s.of(from)) > 0 {
		return false
	}
	if from == to {
		return true
	}
	if plus(s.of(to), num(n)).Cmp(s.each) > 0 {
		return false
	}
	s.has[from] = new(big.Int).Sub(s.of(from), num(n))
	s.has[to] = plus(s.of(to), num(n))
	return true
}

func (s *slow) fair(owners int) int {
	if owners < 1 {
		return 0
	}
	n := new(big.Int).Div(s.all, num(owners))
	if n.Cmp(s.each) > 0 {
		n = s.each
	}
	return int(n.Int64())
}

// same: do both pools say the same of all, and of these owners?
func same(t *testing.T, p *quota.Pool, s *slow, owners ...int) {
	t.Helper()
	used, many := s.used()
	if p.Used() != used || p.Owners() != many {
		t.Fatalf("of %d, %d each: Used %d, Owners %d, not %d, %d", s.all, s.each, p.Used(), p.Owners(), used, many)
	}
	if p.Used() < 0 || num(p.Used()).Cmp(s.all) > 0 {
		t.Fatalf("of %d, %d each: Used %d", s.all, s.each, p.Used())
	}
	for _, o := range owners {
		if has := int(s.of(o).Int64()); p.Of(o) != has || p.Of(o) < 0 || num(p.Of(o)).Cmp(s.each) > 0 {
			t.Fatalf("of %d, %d each: Of(%d) %d, not %d", s.all, s.each, o, p.Of(o), has)
		}
	}
}

// is: what the owners 1 and 2, and on, have, and what there is besides.
func is(t *testing.T, p *quota.Pool, has ...int) {
	t.Helper()
	used, owners := 0, 0
	for i, n := range has {
		used += n
		if n > 0 {
			owners++
		}
		if p.Of(i+1) != n {
			t.Fatalf("Of(%d): %d, not %d", i+1, p.Of(i+1), n)
		}
	}
	if p.Used() != used || p.Owners() != owners {
		t.Fatalf("Used %d, Owners %d, not %d, %d", p.Used(), p.Owners(), used, owners)
	}
}

// yes and no: what a call answers, and what owners have behind it.
func yes(t *testing.T, p *quota.Pool, ok bool, has ...int) {
	t.Helper()
	if !ok {
		t.Fatal("false")
	}
	is(t, p, has...)
}

func no(t *testing.T, p *quota.Pool, ok bool, has ...int) {
	t.Helper()
	if ok {
		t.Fatal("true")
	}
	is(t, p, has...)
}

// gave: how many a call gave back, and what owners have behind it.
func gave(t *testing.T, p *quota.Pool, n, want int, has ...int) {
	t.Helper()
	if n != want {
		t.Fatalf("%d, not %d", n, want)
	}
	is(t, p, has...)
}

func TestExample(t *testing.T) {
	p := quota.New(10, 6)
	yes(t, p, p.Take(1, 6), 6)
	no(t, p, p.Take(2, 5), 6)
	yes(t, p, p.Take(2, 4), 6, 4)
	if p.Used() != 10 {
		t.Error(p.Used())
	}
}

// P39.1

// Of each pair of bounds a new pool has nothing used; just as much may be taken as there is for one, and by all together, at once or by the last byte.
func TestNew(t *testing.T) {
	for _, all := range odd {
		for _, each := range odd {
			p := quota.New(all, each)
			is(t, p, 0, 0, 0)
			one := min(near(all), near(each))
			no(t, p, p.Take(1, one+1), 0)
			yes(t, p, p.Take(1, one), one)
			no(t, p, p.Take(1, 1), one)
			two := min(near(all)-one, near(each))
			no(t, p, p.Take(2, two+1), one)
			yes(t, p, p.Take(2, two), one, two)
			no(t, p, p.Take(2, 1), one, two)
			if one > 0 {
				gave(t, p, p.Give(1, 1), 1, one-1, two)
				no(t, p, p.Take(1, 2), one-1, two)
				yes(t, p, p.Take(1, 1), one, two)
			}
		}
	}
}

// Numbers below 0 and such as go round are never taken, and leave all as it was; none is taken of any pool.
func TestTakeWrong(t *testing.T) {
	for _, all := range odd {
		for _, each := range odd {
			p, s := quota.New(all, each), newSlow(all, each)
			for _, start := range []int{0, 1, 5} {
				if p.Take(1, start) != s.take(1, start) {
					t.Fatalf("New(%d, %d), Take %d", all, each, start)
				}
				for _, n := range odd {
					if got, want := p.Take(2, n), s.take(2, n); got != want {
						t.Fatalf("New(%d, %d), Take %d: %v, not %v", all, each, n, got, want)
					}
					same(t, p, s, 1, 2, 3)
					if got, want := p.Drop(2), s.give(2, math.MaxInt); got != want {
						t.Fatalf("New(%d, %d), Drop: %d, not %d", all, each, got, want)
					}
					same(t, p, s, 1, 2, 3)
				}
			}
			yes(t, p, p.Take(9, 0), p.Of(1), 0)
		}
	}
}

// What is for all binds, though each might have more; what is for each binds, though there is more.
func TestTakeBounds(t *testing.T) {
	p := quota.New(5, 100)
	yes(t, p, p.Take(1, 3), 3)
	no(t, p, p.Take(2, 3), 3)
	no(t, p, p.Take(1, 3), 3)
	yes(t, p, p.Take(2, 2), 3, 2)
	no(t, p, p.Take(3, 1), 3, 2)
	yes(t, p, p.Take(3, 0), 3, 2, 0)

	p = quota.New(100, 5)
	yes(t, p, p.Take(1, 3), 3)
	no(t, p, p.Take(1, 3), 3)
	yes(t, p, p.Take(1, 2), 5)
	no(t, p, p.Take(1, 1), 5)
	no(t, p, p.Take(2, 6), 5)
	yes(t, p, p.Take(2, 5), 5, 5)
}

// Give gives what there is, and no more; what was given may be taken again, by anyone.
func TestGive(t *testing.T) {
	p := quota.New(10, 6)
	gave(t, p, p.Give(1, 5), 0, 0)
	yes(t, p, p.Take(1, 6), 6)
	yes(t, p, p.Take(2, 4), 6, 4)
	for _, n := range []int{0, -1, math.MinInt} {
		gave(t, p, p.Give(1, n), 0, 6, 4)
	}
	gave(t, p, p.Give(3, 4), 0, 6, 4)
	gave(t, p, p.Give(1, 2), 2, 4, 4)
	no(t, p, p.Take(3, 3), 4, 4)
	yes(t, p, p.Take(3, 2), 4, 4, 2)
	gave(t, p, p.Give(1, 5), 4, 0, 4, 2)
	gave(t, p, p.Give(1, 5), 0, 0, 4, 2)
	gave(t, p, p.Give(2, math.MaxInt), 4, 0, 0, 2)
	gave(t, p, p.Give(3, 2), 2, 0, 0, 0)
	yes(t, p, p.Take(3, 6), 0, 0, 6)
}

func TestDrop(t *testing.T) {
	p := quota.New(1<<30, 1<<30)
	gave(t, p, p.Drop(1), 0, 0)
	yes(t, p, p.Take(1, 7), 7)
	yes(t, p, p.Take(2, 1<<30-7), 7, 1<<30-7)
	gave(t, p, p.Drop(3), 0, 7, 1<<30-7)
	gave(t, p, p.Drop(2), 1<<30-7, 7, 0)
	gave(t, p, p.Drop(2), 0, 7, 0)
	gave(t, p, p.Drop(1), 7, 0, 0)
	yes(t, p, p.Take(1, 1<<30), 1<<30)
	gave(t, p, p.Drop(1), 1<<30, 0)
}

// P39.2

func TestMove(t *testing.T) {
	p := quota.New(10, 6)
	yes(t, p, p.Move(1, 2, 0))
	no(t, p, p.Move(1, 2, 1))
	yes(t, p, p.Take(1, 6), 6)
	yes(t, p, p.Take(2, 4), 6, 4) // all is used: that binds none who moves
	no(t, p, p.Move(1, 2, 3), 6, 4)
	yes(t, p, p.Move(1, 2, 2), 4, 6)
	no(t, p, p.Move(1, 2, 1), 4, 6)
	yes(t, p, p.Move(1, 2, 0), 4, 6)
	no(t, p, p.Move(2, 3, 7), 4, 6)
	yes(t, p, p.Move(2, 3, 6), 4, 0, 6)
	yes(t, p, p.Move(3, 2, 1), 4, 1, 5)
	no(t, p, p.Move(2, 1, 2), 4, 1, 5)
	yes(t, p, p.Move(2, 1, 1), 5, 0, 5)
	for _, n := range []int{-1, -6, math.MinInt, 6, 1 << 32, math.MaxInt} {
		no(t, p, p.Move(1, 2, n), 5, 0, 5)
		no(t, p, p.Move(1, 3, n), 5, 0, 5)
		no(t, p, p.Move(2, 1, n), 5, 0, 5)
	}
}

// Of one owner nothing is turned, though it would have more than each for a while; it must have so many all the same.
func TestMoveToOneself(t *testing.T) {
	p := quota.New(10, 6)
	for n := range 6 {
		for m := -2; m < 9; m++ {
			if got := p.Move(1, 1, m); got != (m >= 0 && m <= n) {
				t.Fatalf("%d of %d: %v", m, n, got)
			}
			is(t, p, n)
		}
		yes(t, p, p.Take(1, 1), n+1)
	}
	yes(t, p, p.Move(1, 1, 6), 6)
	no(t, p, p.Move(1, 1, 7), 6)
	no(t, p, p.Move(1, 1, -1), 6)
	yes(t, p, p.Move(2, 2, 0), 6, 0)
	no(t, p, p.Move(2, 2, 1), 6, 0)
}

// Each move between owners who have few bytes.
func TestEachMove(t *testing.T) {
	for has := range 6 {
		for other := range 6 {
			for n := -1; n < 7; n++ {
				for _, to := range []int{1, 2, 3} {
					p, s := quota.New(10, 5), newSlow(10, 5)
					for o, m := range []int{1: has, 2: other} {
						if p.Take(o, m) != s.take(o, m) {
							t.Fatal(o, m)
						}
					}
					if got, want := p.Move(1, to, n), s.move(1, to, n); got != want {
						t.Fatalf("%d, %d: Move(1, %d, %d): %v", has, other, to, n, got)
					}
					same(t, p, s, 0, 1, 2, 3)
				}
			}
		}
	}
}

// P39.3

func TestFair(t *testing.T) {
	for _, x := range []struct{ all, each, owners, want int }{
		{10, 6, 0, 0}, {10, 6, -1, 0}, {10, 6, math.MinInt, 0}, {10, 6, 1, 6}, {10, 6, 2, 5}, {10, 6, 3, 3}, {10, 6, 4, 2}, {10, 6, 10, 1}, {10, 6, 11, 0}, {10, 6, math.MaxInt, 0},
		{6, 10, 1, 6}, {0, 6, 1, 0}, {6, 0, 1, 0}, {-1, 6, 1, 0}, {6, -1, 1, 0}, {math.MaxInt, math.MaxInt, 1, 1 << 30}, {math.MaxInt, math.MaxInt, 3, 357913941}, {1 << 30, 1 << 30, 1 << 30, 1}, {1 << 31, 7, 1<<30 + 1, 0},
	} {
		if got := quota.New(x.all, x.each).Fair(x.owners); got != x.want {
			t.Errorf("New(%d, %d), Fair(%d): %d, not %d", x.all, x.each, x.owners, got, x.want)
		}
	}
	for _, all := range odd {
		for _, each := range odd {
			p, s := quota.New(all, each), newSlow(all, each)
			p.Take(1, 3) // what is used matters to none of it
			for _, owners := range odd {
				if got, want := p.Fair(owners), s.fair(owners); got != want {
					t.Fatalf("New(%d, %d), Fair(%d): %d, not %d", all, each, owners, got, want)
				}
			}
		}
	}
}

// As many owners as one wants, of any number, who have as many as is fair; those who have none don't count.
func TestOwners(t *testing.T) {
	const many = 20000
	p := quota.New(3*many+2, 1000)
	fair := p.Fair(many)
	if fair != 3 {
		t.Fatal(fair)
	}
	number := func(i int) int { return (i - many/2) * (math.MaxInt / many) }
	for i := range many {
		if !p.Take(number(i), 0) || p.Owners() != i || !p.Take(number(i), fair) || p.Owners() != i+1 || p.Used() != 3*(i+1) {
			t.Fatal(i, p.Owners(), p.Used())
		}
	}
	for i := range many {
		if p.Give(number(i), 2) != 2 || p.Owners() != many-i || p.Of(number(i)) != 1 || p.Drop(number(i)) != 1 || p.Owners() != many-i-1 || p.Used() != 3*(many-i-1) {
			t.Fatal(i, p.Owners(), p.Used())
		}
	}
	for _, o := range odd {
		if p.Of(o) != 0 || !p.Take(o, 2) || p.Of(o) != 2 {
			t.Fatal(o, p.Of(o))
		}
	}
	if p.Owners() != len(odd) || p.Used() != 2*len(odd) {
		t.Error(p.Owners(), p.Used())
	}
}

// P39.4

// Calls in drawn orders: what is used is always what all owners have, and never more than may be.
func TestDrawn(t *testing.T) {
	r := rand.New(rand.NewSource(1))
	owners := []int{math.MinInt, -1, 0, 1, 2, 3, math.MaxInt}
	for range 2000 {
		most := []int{8, 100, 1 << 30, 1 << 31}[r.Intn(4)]
		all, each := r.Intn(most), r.Intn(most)
		p, s := quota.New(all, each), newSlow(all, each)
		for range 150 {
			n := r.Intn(most/2) - most/20
			switch r.Intn(10) {
			case 0:
				n = odd[r.Intn(len(odd))]
			case 1:
				n = all - p.Used() + r.Intn(3) - 1
			case 2:
				n = each - p.Of(owners[r.Intn(len(owners))]) + r.Intn(3) - 1
			}
			one, two := owners[r.Intn(len(owners))], owners[r.Intn(len(owners))]
			ok := true
			switch r.Intn(6) {
			case 0:
				ok = p.Give(one, n) == s.give(one, n)
			case 1:
				ok = r.Intn(3) > 0 || p.Drop(one) == s.give(one, math.MaxInt)
			case 2, 3:
				ok = p.Move(one, two, n) == s.move(one, two, n)
			default:
				ok = p.Take(one, n) == s.take(one, n)
			}
			if !ok {
				t.Fatalf("New(%d, %d): %d, %d, %d", all, each, one, two, n)
			}
			same(t, p, s, owners...)
		}
	}
}

// P1, P2

// Looking changes nothing, asking of who has none makes it no owner, and no pool matters to another one.
func TestAlone(t *testing.T) {
	one, two := quota.New(10, 6), quota.New(10, 6)
	one.Take(1, 3)
	for _, n := range odd {
		for _, o := range odd {
			two.Take(o, n)
			two.Move(n, o, n)
			two.Give(o, n)
			one.Of(o)
			one.Fair(o)
			one.Give(o, min(n, 0))
			one.Move(o, n, 0)
			one.Take(o, 0)
			if o != 1 {
				one.Drop(o)
			}
		}
		is(t, one, 3, 0, 0)
	}
}

// The same calls answer the same once more.
func TestOnceMore(t *testing.T) {
	play := func() []int {
		r, p, said := rand.New(rand.NewSource(2)), quota.New(100, 40), []int{}
		for range 5000 {
			o, n := r.Intn(9), r.Intn(30)
			switch r.Intn(3) {
			case 0:
				p.Take(o, n)
			case 1:
				p.Move(o, n, n)
			default:
				said = append(said, p.Give(o, n))
			}
			said = append(said, p.Used(), p.Owners(), p.Of(o), p.Fair(n))
		}
		return said
	}
	one, two := play(), play()
	for i := range one {
		if one[i] != two[i] {
			t.Fatal(i)
		}
	}
}
