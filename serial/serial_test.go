package serial_test

import (
	"math"
	"math/big"
	"math/rand"
	"testing"

	"brougham/serial"
)

const (
	round = 1 << 32
	half  = 1 << 31
	last  = math.MaxUint32
)

// edges: numbers at the seam, at half the way round, and about other powers.
var edges = []uint32{
	0, 1, 2, 3, 100, 65535, 65536, 1<<20 - 1, 1 << 20, 1<<20 + 1, 1<<30 - 1, 1 << 30, 1<<30 + 1,
	half - 2, half - 1, half, half + 1, half + 2, 3<<30 - 1, 3 << 30, 3<<30 + 1, last - 1<<20, last - 2, last - 1, last,
}

// some: edges, and numbers that are drawn.
func some(r *rand.Rand) uint32 {
	if r.Intn(3) == 0 {
		return r.Uint32()
	}
	return edges[r.Intn(len(edges))] + uint32(r.Intn(5)) - 2
}

// diff: the number from -2^31 below 2^31 that is a - b modulo 2^32, counted without going round.
func diff(a, b uint32) int64 {
	d := int64(a) - int64(b)
	for d < -half {
		d += round
	}
	for d >= half {
		d -= round
	}
	return d
}

// steps: how many steps forth, round, lead from one number to another one.
func steps(from, to uint32) int64 {
	d := int64(to) - int64(from)
	if d < 0 {
		d += round
	}
	return d
}

// P4.1

func TestDiff(t *testing.T) {
	for _, x := range []struct {
		a, b uint32
		want int64
	}{
		{0, 0, 0}, {1, 0, 1}, {0, 1, -1}, {0, last, 1}, {last, 0, -1}, {last, last, 0}, {5, last - 4, 10}, {last - 4, 5, -10},
		{half - 1, 0, half - 1}, {half, 0, -half}, {0, half, -half}, {half + 1, 0, -half + 1}, {0, half + 1, half - 1}, {last, half, half - 1},
		{half, last, -half + 1}, {half - 1, last, -half}, {last, half - 1, -half}, {7, 7 + half, -half}, {7 + half, 7, -half},
	} {
		if got := int64(serial.Diff(x.a, x.b)); got != x.want {
			t.Errorf("Diff(%d, %d): %d, not %d", x.a, x.b, got, x.want)
		}
		if got := serial.Less(x.a, x.b); got != (x.want < 0) {
			t.Errorf("Less(%d, %d): %v", x.a, x.b, got)
		}
		want := x.a
		if x.want < 0 {
			want = x.b
		}
		if got := serial.Max(x.a, x.b); got != want {
			t.Errorf("Max(%d, %d): %d", x.a, x.b, got)
		}
	}
}

// Half the way round each number is less than the other one, and Max is the second one.
func TestHalf(t *testing.T) {
	for _, a := range edges {
		b := a + half
		if !serial.Less(a, b) || !serial.Less(b, a) || serial.Max(a, b) != b || serial.Max(b, a) != a {
			t.Error(a, b)
		}
	}
}

func TestOrders(t *testing.T) {
	r := rand.New(rand.NewSource(1))
	for range 100000 {
		a, b := some(r), some(r)
		d := diff(a, b)
		if int64(serial.Diff(a, b)) != d || serial.Less(a, b) != (d < 0) {
			t.Fatal(a, b, serial.Diff(a, b), d)
		}
		want := a
		if d < 0 {
			want = b
		}
		if got := serial.Max(a, b); got != want {
			t.Fatal(a, b, got)
		}
	}
}

// P4.2

func TestWithin(t *testing.T) {
	for _, x := range []struct {
		x, from, size uint32
		want          bool
	}{
		{0, 0, 0, false}, {5, 5, 0, false}, {last, 0, 0, false}, {0, 0, 1, true}, {1, 0, 1, false}, {last, 0, 1, false}, {last, 0, last, false}, {last - 1, 0, last, true},
		{5, 5, 3, true}, {7, 5, 3, true}, {8, 5, 3, false}, {4, 5, 3, false}, {4, 5, last, false}, {3, 5, last, true},
		{last, last, 1, true}, {0, last, 1, false}, {0, last, 2, true}, {1, last, 2, false}, {last - 1, last, 2, false}, {half, 0, half, false}, {half - 1, 0, half, true}, {half, 0, half + 1, true},
	} {
		if got := serial.Within(x.x, x.from, x.size); got != x.want {
			t.Errorf("Within(%d, %d, %d): %v", x.x, x.from, x.size, got)
		}
	}
}

func TestNear(t *testing.T) {
	for _, x := range []struct {
		x, to, size uint32
		want        bool
	}{
		{5, 5, 0, false}, {0, 0, 0, false}, {5, 5, 1, true}, {4, 5, 1, false}, {6, 5, 1, false}, {4, 5, 2, true}, {6, 5, 2, true}, {3, 5, 2, false}, {7, 5, 2, false},
		{last, 0, 1, false}, {last, 0, 2, true}, {0, last, 2, true}, {last - 1, 0, 2, false}, {1, last, 2, false}, {1, last, 3, true},
		{0, half, half, false}, {0, half, half + 1, true}, {half, 0, half, false}, {half, 0, half + 1, true}, {half - 1, 0, half, true}, {half + 1, 0, half, true}, {1, 0, last, true},
		{1<<20 - 1, 0, 1 << 20, true}, {1 << 20, 0, 1 << 20, false}, {last - 1<<20 + 2, 0, 1 << 20, true}, {last - 1<<20 + 1, 0, 1 << 20, false},
	} {
		if got := serial.Near(x.x, x.to, x.size); got != x.want {
			t.Errorf("Near(%d, %d, %d): %v", x.x, x.to, x.size, got)
		}
	}
}

func TestBetween(t *testing.T) {
	for _, x := range []struct {
		x, from, to uint32
		want        bool
	}{
		{2, 1, 2, true}, {1, 1, 2, false}, {3, 1, 2, false}, {0, 1, 2, false}, {5, 5, 5, false}, {6, 5, 5, false}, {4, 5, 5, false},
		{2, 2, 1, false}, {1, 2, 1, false}, {3, 2, 1, false}, {0, last, 0, true}, {last, last, 0, false}, {1, last, 0, false},
		{last, last - 1, 1, true}, {0, last - 1, 1, true}, {1, last - 1, 1, true}, {2, last - 1, 1, false}, {last - 1, last - 1, 1, false},
		{1, 0, half - 1, true}, {half - 1, 0, half - 1, true}, {half, 0, half - 1, false}, {0, 0, half - 1, false},
		{1, 0, half, false}, {half, 0, half, false}, {1, 0, half + 1, false}, {last, 0, last, false}, {half + 1, half, last, true}, {last, half, last, true}, {0, half, last, false},
	} {
		if got := serial.Between(x.x, x.from, x.to); got != x.want {
			t.Errorf("Between(%d, %d, %d): %v", x.x, x.from, x.to, got)
		}
	}
}

func TestPlaces(t *testing.T) {
	r := rand.New(rand.NewSource(2))
	for range 100000 {
		x, y, z := some(r), some(r), some(r)
		if got := serial.Within(x, y, z); got != (steps(y, x) < int64(z)) {
			t.Fatal("Within", x, y, z, got)
		}
		if got := serial.Near(x, y, z); got != (min(steps(y, x), steps(x, y)) < int64(z)) {
			t.Fatal("Near", x, y, z, got)
		}
		want := diff(z, y) >= 0 && steps(y, x) >= 1 && steps(y, x) <= steps(y, z)
		if got := serial.Between(x, y, z); got != want {
			t.Fatal("Between", x, y, z, got)
		}
	}
}

// P4.3

// wide: the nearest number that has these lowest bits, sought among all that are near, without going round.
func wide(near uint64, low uint32) uint64 {
	at := new(big.Int).SetUint64(near)
	best, away := uint64(0), (*big.Int)(nil)
	for turn := int64(near>>32) - 2; turn <= int64(near>>32)+2; turn++ {
		x := new(big.Int).Lsh(big.NewInt(turn), 32)
		x.Add(x, big.NewInt(int64(low)))
		if !x.IsUint64() {
			continue
		}
		d := new(big.Int).Sub(x, at)
		if d.Abs(d); away == nil || d.Cmp(away) <= 0 { // rising: of two that are as near the later one is the greater one
			best, away = x.Uint64(), d
		}
	}
	return best
}

func TestWide(t *testing.T) {
	for _, x := range []struct {
		near uint64
		low  uint32
		want uint64
	}{
		{0, 0, 0}, {0, 5, 5}, {0, half - 1, half - 1}, {0, half, half}, {0, half + 1, half + 1}, {0, last, last}, {5, 4, 4}, {5, last, last}, {half, last, last}, {half, 0, round}, {half - 1, 0, 0}, {half + 1, 0, round},
		{last, 0, round}, {last, last, last}, {round, last, round - 1}, {round, half, round + half}, {round, half + 1, half + 1}, {round, half - 1, round + half - 1}, {round - 1, half - 1, round + half - 1}, {round - 1, half, half},
		{2*round + 5, 4, 2*round + 4}, {2*round + 5, 5 + half, 2*round + 5 + half}, {2*round + 5, 6 + half, round + 6 + half},
		{math.MaxUint64, last, math.MaxUint64}, {math.MaxUint64, 0, math.MaxUint64 - last}, {math.MaxUint64, half, math.MaxUint64 - half + 1}, {math.MaxUint64, half - 1, math.MaxUint64 - half},
		{math.MaxUint64 - half, half - 1, math.MaxUint64 - half}, {math.MaxUint64 - half, last, math.MaxUint64}, {math.MaxUint64 - half + 1, 0, math.MaxUint64 - last},
		{math.MaxUint64 - half - 1, half - 2, math.MaxUint64 - half - 1}, {math.MaxUint64 - last, half, math.MaxUint64 - last + half}, {math.MaxUint64 - last, last, math.MaxUint64 - round},
		{1<<63 - 1, 0, 1 << 63}, {1 << 63, last, 1<<63 - 1},
	} {
		if got := serial.Wide(x.near, x.low); got != x.want {
			t.Errorf("Wide(%d, %d): %d, not %d", x.near, x.low, got, x.want)
		}
		if want := wide(x.near, x.low); x.want != want {
			t.Errorf("%d, %d: %d, not %d", x.near, x.low, x.want, want)
		}
	}
}

func TestWideNearest(t *testing.T) {
	r := rand.New(rand.NewSource(3))
	highs := []uint64{0, 1, 2, 1 << 31, 1<<31 - 1, 1<<32 - 2, 1<<32 - 1}
	for range 100000 {
		near, low := highs[r.Intn(len(highs))]<<32|uint64(some(r)), some(r)
		if r.Intn(3) == 0 {
			low = uint32(near) + half + uint32(r.Intn(3)) - 1
		}
		if got, want := serial.Wide(near, low), wide(near, low); got != want || uint32(got) != low {
			t.Fatal(near, low, got, want)
		}
	}
}

// P1, P2

// Each call takes any number, and answers the same again, whatever was called between.
func TestAny(t *testing.T) {
	answers := func() []any {
		var l []any
		for _, a := range edges {
			for _, b := range edges {
				l = append(l, serial.Diff(a, b), serial.Less(a, b), serial.Max(a, b), serial.Wide(uint64(a)<<32|uint64(b), a), serial.Wide(math.MaxUint64-uint64(a), b))
				for _, c := range edges {
					l = append(l, serial.Within(a, b, c), serial.Near(a, b, c), serial.Between(a, b, c))
				}
			}
		}
		return l
	}
	first, again := answers(), answers()
	for i := range first {
		if first[i] != again[i] {
			t.Fatal(i, first[i], again[i])
		}
	}
}
