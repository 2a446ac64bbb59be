package bucket_test

import (
	"math"
	"math/big"
	"math/rand"
	"testing"

	"brougham/bucket"
)

// odd: numbers at the bounds, next to them, and such as go round when they are multiplied.
var odd = []int{
	math.MinInt, math.MinInt + 1, -1 << 32, -4097, -4096, -2, -1, 0, 1, 2, 3, 7, 63, 64, 65, 1000, 2047, 2048, 4095, 4096, 4097, 4098, 8192,
	1 << 16, 1<<31 - 1, 1 << 31, 1 << 32, 1<<32 + 1, 1 << 48, 1 << 52, 1 << 62, math.MaxInt - 1, math.MaxInt,
}

// slow is a bucket that reckons in numbers of any size.
type slow struct {
	burst, rate, left *big.Int
}

func nearer(n int) *big.Int {
	if n < 0 {
		return big.NewInt(0)
	}
	if n > 4096 {
		return big.NewInt(4096)
	}
	return big.NewInt(int64(n))
}

func newSlow(burst, rate int) *slow { return &slow{nearer(burst), nearer(rate), nearer(burst)} }

func (s *slow) take() bool {
	if s.left.Sign() == 0 {
		return false
	}
	s.left = new(big.Int).Sub(s.left, big.NewInt(1))
	return true
}

func (s *slow) tick(n int) {
	s.left = new(big.Int).Add(s.left, new(big.Int).Mul(nearer(n), s.rate))
	if s.left.Cmp(s.burst) > 0 {
		s.left = s.burst
	}
}

// same: do both buckets have as many tokens?
func same(t *testing.T, b *bucket.Bucket, s *slow) {
	t.Helper()
	if b.Left() != int(s.left.Int64()) {
		t.Fatalf("Left: %d, not %d (burst %d, rate %d)", b.Left(), s.left, s.burst, s.rate)
	}
}

// take: one token is taken of both, if there is one.
func take(t *testing.T, b *bucket.Bucket, s *slow) {
	t.Helper()
	if got, want := b.Take(), s.take(); got != want {
		t.Fatalf("Take: %v, not %v (burst %d, rate %d)", got, want, s.burst, s.rate)
	}
	same(t, b, s)
}

// P11.1

func TestExample(t *testing.T) {
	b := bucket.New(2, 1)
	if !b.Take() || !b.Take() || b.Take() {
		t.Error(b.Left())
	}
	b.Tick(1)
	if !b.Take() || b.Take() {
		t.Error(b.Left())
	}
}

// A new bucket is full: just so many tokens can be taken, and one more isn't, however often it is asked for.
func TestNew(t *testing.T) {
	for _, burst := range odd {
		for _, rate := range []int{math.MinInt, 0, 1, math.MaxInt} {
			b, s := bucket.New(burst, rate), newSlow(burst, rate)
			same(t, b, s)
			for range s.left.Int64() {
				take(t, b, s)
			}
			for range 3 {
				if b.Take() || b.Left() != 0 {
					t.Fatalf("New(%d, %d): a token too many", burst, rate)
				}
			}
		}
	}
}

// Each bucket at the bounds, with some tokens taken, ticks on.
func TestTick(t *testing.T) {
	for _, burst := range odd {
		for _, rate := range odd {
			for _, n := range odd {
				b, s := bucket.New(burst, rate), newSlow(burst, rate)
				for range 5 {
					take(t, b, s)
				}
				b.Tick(n)
				s.tick(n)
				same(t, b, s)
			}
		}
	}
}

// Each small bucket, from each number of tokens on, with each small number of ticks.
func TestEach(t *testing.T) {
	for burst := -1; burst <= 9; burst++ {
		for rate := -1; rate <= 10; rate++ {
			for taken := range 11 {
				for n := -2; n <= 11; n++ {
					b, s := bucket.New(burst, rate), newSlow(burst, rate)
					for range taken {
						take(t, b, s)
					}
					b.Tick(n)
					s.tick(n)
					same(t, b, s)
					for range 11 {
						take(t, b, s)
					}
				}
			}
		}
	}
}

// An empty bucket of 4096 tokens: ticks and rate multiply, up to the last token.
func TestMultiply(t *testing.T) {
	for _, x := range []struct{ rate, n, left int }{
		{1, 1, 1}, {1, 4095, 4095}, {1, 4096, 4096}, {1, 4097, 4096}, {4095, 1, 4095}, {4096, 1, 4096}, {4097, 1, 4096}, {63, 65, 4095}, {64, 64, 4096}, {65, 63, 4095}, {65, 64, 4096},
		{0, 4096, 0}, {0, math.MaxInt, 0}, {-1, 4096, 0}, {math.MinInt, math.MinInt, 0}, {4096, 0, 0}, {4096, -1, 0}, {math.MaxInt, math.MinInt, 0}, {math.MaxInt, math.MaxInt, 4096}, {2, math.MaxInt, 4096}, {1 << 32, 1 << 32, 4096},
	} {
		b := bucket.New(4096, x.rate)
		for range 4096 {
			b.Take()
		}
		b.Tick(x.n)
		if b.Left() != x.left {
			t.Errorf("rate %d, %d ticks: %d, not %d", x.rate, x.n, b.Left(), x.left)
		}
	}
}

// Ticks at once are as good as one by one.
func TestTicks(t *testing.T) {
	r := rand.New(rand.NewSource(1))
	for range 2000 {
		burst, rate, n := r.Intn(300), r.Intn(5), r.Intn(100)
		one, all := bucket.New(burst, rate), bucket.New(burst, rate)
		for range r.Intn(301) {
			one.Take()
			all.Take()
		}
		for range n {
			one.Tick(1)
		}
		all.Tick(n)
		if one.Left() != all.Left() {
			t.Fatalf("New(%d, %d), %d ticks: %d, not %d", burst, rate, n, all.Left(), one.Left())
		}
	}
}

func TestDrawn(t *testing.T) {
	r := rand.New(rand.NewSource(2))
	for range 2000 {
		most := 1 + []int{3, 40, 5000}[r.Intn(3)]
		burst, rate := r.Intn(most), r.Intn(most)
		b, s := bucket.New(burst, rate), newSlow(burst, rate)
		for range 300 {
			switch r.Intn(5) {
			case 0:
				n := r.Intn(4)
				if r.Intn(10) == 0 {
					n = odd[r.Intn(len(odd))]
				}
				b.Tick(n)
				s.tick(n)
				same(t, b, s)
			default:
				take(t, b, s)
			}
		}
	}
}

// P11.2

// In each run of ticks Take is true at most as often as may be; one that takes all it gets reaches that from the beginning on, if no token comes in vain.
func TestHowOften(t *testing.T) {
	r := rand.New(rand.NewSource(3))
	for round := range 300 {
		burst, rate := r.Intn(20), r.Intn(6)
		b := bucket.New(burst, rate)
		greedy := round%3 == 0
		took := []int{0} // how often Take was true up to the end of each tick
		for range 120 {
			many := 40
			if !greedy {
				many = r.Intn(2) * r.Intn(40)
			}
			n := took[len(took)-1]
			for range many {
				if b.Take() {
					n++
				}
			}
			took = append(took, n)
			b.Tick(1)
		}
		for from := range took {
			for to := from + 1; to < len(took); to++ { // to-from ticks' calls, with to-from-1 ticks between them
				if n := took[to] - took[from]; n > burst+rate*(to-from-1) {
					t.Fatalf("New(%d, %d): %d times in %d ticks", burst, rate, n, to-from)
				}
			}
		}
		if last := len(took) - 1; greedy && rate <= burst && took[last] != burst+rate*(last-1) {
			t.Errorf("New(%d, %d): %d times in %d ticks", burst, rate, took[last], last)
		}
	}
}

// P1, P2

// Looking changes nothing, and no bucket matters to another one.
func TestAlone(t *testing.T) {
	for _, burst := range odd {
		for _, rate := range odd {
			one, two := bucket.New(burst, rate), bucket.New(burst, rate)
			left := one.Left()
			for _, n := range odd {
				two.Take()
				two.Tick(n)
				two.Take()
			}
			if one.Left() != left || one.Take() != (left > 0) || one.Left() != max(left-1, 0) {
				t.Fatalf("New(%d, %d): %d, then %d", burst, rate, left, one.Left())
			}
		}
	}
}
