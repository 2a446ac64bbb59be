package hist_test

import (
	"math"
	"math/big"
	"math/rand"
	"slices"
	"testing"

	"brougham/hist"
)

// odd: numbers at the bounds, next to them, and such as go round when they are added or multiplied.
var odd = []int{
	math.MinInt, math.MinInt + 1, -1 << 32, -1 << 31, -1000, -2, -1, 0, 1, 2, 3, 4, 5, 7, 8, 9, 100, 119, 120, 121, 127, 500, 999, 1000, 1001, 1 << 19,
	1<<20 - 1, 1 << 20, 1<<20 + 1, 1 << 30, 7<<28 - 1, 7 << 28, 1<<31 - 2, 1<<31 - 1, 1 << 31, 1<<31 + 1, 1<<32 - 1, 1 << 32, 1 << 62, math.MaxInt - 1, math.MaxInt,
}

func within(n, last int) int { return min(max(n, 0), last) }

// leasts: the least number of each row, laid row by row, and behind them 2^31: four rows of one number, then four of the same width for each time they double.
func leasts() []int {
	l := []int{0, 1, 2, 3}
	for from := 4; from < 1<<31; from *= 2 {
		for i := range 4 {
			l = append(l, from+i*(from/4))
		}
	}
	return append(l, 1<<31)
}

// slowRow: the last row whose least number isn't above one.
func slowRow(rows []int, n int) int {
	n = within(n, 1<<31-1)
	row := 0
	for row+1 < 120 && rows[row+1] <= n {
		row++
	}
	return row
}

// slow keeps each number that came with how often, and reckons in numbers of any size.
type slow struct {
	rows []int
	came [][2]int
}

func newSlow() *slow { return &slow{rows: leasts()} }

func (s *slow) add(n, often int) {
	if often > 0 {
		s.came = append(s.came, [2]int{within(n, 1<<31-1), within(often, 1<<20)})
	}
}

func (s *slow) join(o *slow) { s.came = append(s.came, o.came...) }

func (s *slow) many() *big.Int {
	sum := big.NewInt(0)
	for _, x := range s.came {
		sum.Add(sum, big.NewInt(int64(x[1])))
	}
	return sum
}

func (s *slow) mean() int {
	if len(s.came) == 0 {
		return 0
	}
	sum := big.NewInt(0)
	for _, x := range s.came {
		sum.Add(sum, new(big.Int).Mul(big.NewInt(int64(x[0])), big.NewInt(int64(x[1]))))
	}
	return int(sum.Div(sum, s.many()).Int64())
}

// below: the numbers in their order; a thousand times those that have come are as many as all times part, or more.
func (s *slow) below(part int) int {
	l := slices.Clone(s.came)
	slices.SortFunc(l, func(a, b [2]int) int { return a[0] - b[0] })
	wanted := new(big.Int).Mul(s.many(), big.NewInt(int64(within(part, 1000))))
	come := big.NewInt(0)
	for _, x := range l {
		come.Add(come, big.NewInt(1000*int64(x[1])))
		if come.Cmp(wanted) >= 0 {
			return s.rows[slowRow(s.rows, x[0])]
		}
	}
	return 0
}

// same: do both say the same of all that came?
func same(t *testing.T, h *hist.Hist, s *slow, told ...int) {
	t.Helper()
	if h.Many() != int(s.many().Int64()) || h.Mean() != s.mean() {
		t.Fatalf("%v: Many %d, Mean %d, not %d, %d", told, h.Many(), h.Mean(), s.many(), s.mean())
	}
	counts := make([]int, 120)
	for _, x := range s.came {
		counts[slowRow(s.rows, x[0])] += x[1]
	}
	for row, n := range counts {
		if h.Count(row) != n {
			t.Fatalf("%v: Count(%d) %d, not %d", told, row, h.Count(row), n)
		}
	}
}

// sameBelow: do both say the same of these parts?
func sameBelow(t *testing.T, h *hist.Hist, s *slow, parts ...int) {
	t.Helper()
	for _, part := range parts {
		if got, want := h.Below(part), s.below(part); got != want {
			t.Fatalf("Below(%d) of %v: %d, not %d", part, s.came, got, want)
		}
	}
}

// of: these numbers came once each.
func of(l ...int) *hist.Hist {
	h := hist.Hist{}
	for _, n := range l {
		h.Add(n, 1)
	}
	return &h
}

func TestNumbers(t *testing.T) {
	if hist.Fine != 4 || hist.Rows != 120 {
		t.Error(hist.Fine, hist.Rows)
	}
}

func TestExample(t *testing.T) {
	if hist.Row(5) != 5 || hist.Row(9) != 8 || hist.Least(8) != 8 {
		t.Error(hist.Row(5), hist.Row(9), hist.Least(8))
	}
}

// P44.1

// Worked out by hand.
func TestRow(t *testing.T) {
	for _, x := range [][2]int{
		{0, 0}, {1, 1}, {2, 2}, {3, 3}, {4, 4}, {5, 5}, {6, 6}, {7, 7}, {8, 8}, {9, 8}, {10, 9}, {11, 9}, {12, 10}, {13, 10}, {14, 11}, {15, 11}, {16, 12}, {19, 12}, {20, 13},
		{27, 14}, {28, 15}, {31, 15}, {32, 16}, {100, 22}, {1023, 35}, {1024, 36}, {1<<30 - 1, 115}, {1 << 30, 116}, {7<<28 - 1, 118}, {7 << 28, 119}, {1<<31 - 1, 119},
		{1 << 31, 119}, {1<<32 + 5, 119}, {math.MaxInt, 119}, {-1, 0}, {-5, 0}, {-1 << 32, 0}, {math.MinInt, 0},
	} {
		if got := hist.Row(x[0]); got != x[1] {
			t.Errorf("Row(%d): %d, not %d", x[0], got, x[1])
		}
	}
}

func TestLeast(t *testing.T) {
	for _, x := range [][2]int{
		{0, 0}, {1, 1}, {3, 3}, {4, 4}, {5, 5}, {7, 7}, {8, 8}, {9, 10}, {11, 14}, {12, 16}, {13, 20}, {22, 96}, {116, 1 << 30}, {117, 5 << 28}, {118, 6 << 28}, {119, 7 << 28},
		{120, 1 << 31}, {121, 1 << 31}, {1000, 1 << 31}, {1 << 32, 1 << 31}, {math.MaxInt, 1 << 31}, {-1, 0}, {-4, 0}, {-1 << 32, 0}, {math.MinInt, 0},
	} {
		if got := hist.Least(x[0]); got != x[1] {
			t.Errorf("Least(%d): %d, not %d", x[0], got, x[1])
		}
	}
}

// Each row has its least number, and the numbers up to just below the next one's.
func TestEachRow(t *testing.T) {
	rows := leasts()
	if len(rows) != 121 {
		t.Fatal(len(rows))
	}
	for row := range 120 {
		from, to := rows[row], rows[row+1]
		if hist.Least(row) != from || hist.Least(row+1) != to {
			t.Fatalf("%d: %d to %d, not %d to %d", row, hist.Least(row), hist.Least(row+1), from, to)
		}
		for _, n := range []int{from, (from + to) / 2, to - 1} {
			if hist.Row(n) != row {
				t.Fatalf("Row(%d): %d, not %d", n, hist.Row(n), row)
			}
		}
	}
	for n := -3; n < 70000; n++ {
		if got, want := hist.Row(n), slowRow(rows, n); got != want {
			t.Fatalf("Row(%d): %d, not %d", n, got, want)
		}
	}
	r := rand.New(rand.NewSource(1))
	for range 20000 {
		n := r.Intn(1<<31) >> r.Intn(32)
		if got, want := hist.Row(n), slowRow(rows, n); got != want {
			t.Fatalf("Row(%d): %d, not %d", n, got, want)
		}
	}
}

// P44.2

// To the zero value nothing came.
func TestNone(t *testing.T) {
	h := hist.Hist{}
	same(t, &h, newSlow())
	for _, n := range odd {
		if h.Count(n) != 0 || h.Below(n) != 0 {
			t.Fatal(n, h.Count(n), h.Below(n))
		}
		for _, often := range []int{0, -1, -1 << 32, math.MinInt} {
			h.Add(n, often)
		}
	}
	same(t, &h, newSlow())
	if h != (hist.Hist{}) {
		t.Error("something came")
	}
}

// Each number with each count, past the bounds, too, alone and behind others.
func TestAdd(t *testing.T) {
	for _, n := range odd {
		for _, often := range odd {
			h, s := hist.Hist{}, newSlow()
			h.Add(n, often)
			s.add(n, often)
			same(t, &h, s, n, often)
			h.Add(7, 3)
			s.add(7, 3)
			h.Add(n, often)
			s.add(n, often)
			same(t, &h, s, n, often)
			sameBelow(t, &h, s, 0, 1, 499, 500, 501, 1000)
		}
	}
}

// There are no rows but those from 0 below 120.
func TestCount(t *testing.T) {
	h := of()
	for _, n := range leasts()[:120] {
		h.Add(n, 5)
	}
	if h.Many() != 600 {
		t.Error(h.Many())
	}
	rows := slices.Clone(odd)
	for row := -130; row < 260; row++ {
		rows = append(rows, row)
	}
	for _, row := range rows {
		want := 0
		if row >= 0 && row < 120 {
			want = 5
		}
		if h.Count(row) != want {
			t.Errorf("Count(%d): %d, not %d", row, h.Count(row), want)
		}
	}
}

// The mean is that of the numbers, not of their rows; rounded down.
func TestMean(t *testing.T) {
	for _, x := range []struct {
		l    []int
		want int
	}{
		{nil, 0}, {[]int{0}, 0}, {[]int{9}, 9}, {[]int{0, 1}, 0}, {[]int{1, 2}, 1}, {[]int{0, 0, 2}, 0}, {[]int{1, 1, 3}, 1}, {[]int{1, 2, 3}, 2}, {[]int{15, 15}, 15}, {[]int{-9, 9}, 4},
		{[]int{1<<31 - 1, 1<<31 - 1}, 1<<31 - 1}, {[]int{1 << 40, 1<<31 - 1}, 1<<31 - 1}, {[]int{math.MaxInt, math.MinInt}, 1<<30 - 1}, {[]int{1<<31 - 1, 1<<31 - 2}, 1<<31 - 2},
	} {
		if got := of(x.l...).Mean(); got != x.want {
			t.Errorf("%v: %d, not %d", x.l, got, x.want)
		}
	}
}

// A thousand of the greatest numbers, as often as may be.
func TestThousand(t *testing.T) {
	h := hist.Hist{}
	for range 1000 {
		h.Add(math.MaxInt, math.MaxInt)
	}
	if h.Many() != 1000<<20 || h.Mean() != 1<<31-1 || h.Count(119) != 1000<<20 || h.Below(1000) != 7<<28 || h.Below(0) != 7<<28 {
		t.Error(h.Many(), h.Mean(), h.Count(119), h.Below(1000))
	}
	h = hist.Hist{}
	for i := range 1000 {
		h.Add(1<<31-1-i%2, 1<<20)
	}
	if h.Many() != 1000<<20 || h.Mean() != 1<<31-2 {
		t.Error(h.Many(), h.Mean())
	}
}

// P44.3

// Worked out by hand.
func TestBelow(t *testing.T) {
	four := []int{1, 2, 9, 100}
	for _, x := range []struct {
		l          []int
		part, want int
	}{
		{nil, 0, 0}, {nil, 500, 0}, {nil, 1000, 0},
		{[]int{9}, -1, 8}, {[]int{9}, 0, 8}, {[]int{9}, 1, 8}, {[]int{9}, 1000, 8}, {[]int{9}, 1001, 8},
		{four, math.MinInt, 1}, {four, -1, 1}, {four, 0, 1}, {four, 1, 1}, {four, 250, 1}, {four, 251, 2}, {four, 500, 2}, {four, 501, 8}, {four, 750, 8}, {four, 751, 96},
		{four, 999, 96}, {four, 1000, 96}, {four, 1001, 96}, {four, math.MaxInt, 96},
		{[]int{100, 9, 1, 2}, 500, 2},
		{[]int{9, 8, 9, 8}, 1000, 8},
		{[]int{1, 3, 3}, 333, 1}, {[]int{1, 3, 3}, 334, 3}, {[]int{1, 1, 3}, 666, 1}, {[]int{1, 1, 3}, 667, 3},
	} {
		if got := of(x.l...).Below(x.part); got != x.want {
			t.Errorf("Below(%d) of %v: %d, not %d", x.part, x.l, got, x.want)
		}
	}
}

// Of a thousand and two thousand numbers each part cuts just where it says.
func TestBelowThousand(t *testing.T) {
	for cut := range 1001 {
		h := hist.Hist{}
		h.Add(5, cut)
		h.Add(1<<31-1, 1000-cut)
		for _, part := range []int{0, cut - 1, cut, cut + 1, 1000} {
			want := 5
			if cut == 0 || within(part, 1000) > cut {
				want = 7 << 28
			}
			if got := h.Below(part); got != want {
				t.Fatalf("%d of 1000, Below(%d): %d, not %d", cut, part, got, want)
			}
		}
	}
	h := hist.Hist{}
	h.Add(5, 1)
	h.Add(6, 1999)
	if h.Below(0) != 5 || h.Below(1) != 6 {
		t.Error(h.Below(0), h.Below(1))
	}
}

// Each part of few numbers, and of many.
func TestEachPart(t *testing.T) {
	r := rand.New(rand.NewSource(2))
	for round := range 60 {
		h, s := hist.Hist{}, newSlow()
		for range r.Intn(12) {
			n, often := r.Intn(1<<31)>>r.Intn(32), 1+r.Intn(3)
			if round%3 == 0 {
				often = r.Intn(1 << 21)
			}
			h.Add(n, often)
			s.add(n, often)
		}
		for part := -2; part < 1003; part++ {
			sameBelow(t, &h, s, part)
		}
		sameBelow(t, &h, s, odd...)
	}
}

func TestJoin(t *testing.T) {
	one, two := of(1, 9), of(9, 100, 100)
	was := *two
	one.Join(two)
	if *two != was || *one != *of(1, 9, 9, 100, 100) {
		t.Error(one, two)
	}
	if one.Many() != 5 || one.Mean() != 43 || one.Count(8) != 2 || one.Count(22) != 2 || one.Below(500) != 8 {
		t.Error(one.Many(), one.Mean(), one.Count(8), one.Count(22), one.Below(500))
	}
	two.Add(5, 1) // what came to it later doesn't come
	if *one != *of(1, 9, 9, 100, 100) {
		t.Error(one)
	}
	one.Join(nil)
	one.Join(&hist.Hist{})
	if *one != *of(1, 9, 9, 100, 100) {
		t.Error(one)
	}
	none := hist.Hist{}
	none.Join(nil)
	if none != (hist.Hist{}) {
		t.Error(none)
	}
	none.Join(one)
	if none != *one {
		t.Error(none)
	}
}

// One that joins itself: all comes once more.
func TestJoinItself(t *testing.T) {
	h := of(1, 9, 100)
	h.Join(h)
	if *h != *of(1, 1, 9, 9, 100, 100) || h.Many() != 6 || h.Mean() != 36 || h.Count(8) != 2 || h.Below(1000) != 96 {
		t.Error(h.Many(), h.Mean(), h.Count(8), h.Below(1000))
	}
}

// So many that all of them times part would go round.
func TestBelowOfVeryMany(t *testing.T) {
	h := of(1, 2, 9, 100)
	for range 60 {
		h.Join(h)
	}
	for _, x := range [][2]int{{0, 1}, {1, 1}, {250, 1}, {251, 2}, {500, 2}, {501, 8}, {750, 8}, {751, 96}, {1000, 96}} {
		if got := h.Below(x[0]); got != x[1] {
			t.Errorf("Below(%d): %d, not %d", x[0], got, x[1])
		}
	}
}

// Adds and joins in drawn orders.
func TestDrawn(t *testing.T) {
	r := rand.New(rand.NewSource(3))
	for range 300 {
		h, s := []*hist.Hist{of(), of(), of()}, []*slow{newSlow(), newSlow(), newSlow()}
		joins := 0
		for range 60 {
			i, j := r.Intn(3), r.Intn(3)
			n, often := r.Intn(1<<31)>>r.Intn(32), r.Intn(1<<20)>>r.Intn(20)
			if r.Intn(8) == 0 {
				n, often = odd[r.Intn(len(odd))], odd[r.Intn(len(odd))]
			}
			if r.Intn(10) == 0 && joins < 5 {
				h[i].Join(h[j])
				s[i].join(s[j])
				joins++
			} else {
				h[i].Add(n, often)
				s[i].add(n, often)
			}
			same(t, h[i], s[i], n, often)
			sameBelow(t, h[i], s[i], r.Intn(1001), r.Intn(1200)-100)
		}
	}
}

// P1, P2

// Calls end and don't panic, however much was joined.
func TestNoPanic(t *testing.T) {
	for _, n := range odd {
		for _, often := range []int{1, 3, 1 << 20} {
			h := hist.Hist{}
			for range 130 {
				h.Add(n, often)
				h.Join(&h)
				h.Many()
				h.Mean()
				for _, m := range odd {
					h.Count(m)
					h.Below(m)
				}
			}
		}
	}
}

// Looking changes nothing, and none matters to another one, nor to what it was copied of.
func TestAlone(t *testing.T) {
	one, two := of(1, 9, 100), of(1, 9, 100)
	copied := *one
	for _, n := range odd {
		two.Add(n, n)
		copied.Add(n, n)
		copied.Join(two)
		one.Count(n)
		one.Below(n)
		one.Many()
		one.Mean()
	}
	if *one != *of(100, 1, 9) {
		t.Error(one.Many(), one.Mean())
	}
}

// The same calls answer the same once more.
func TestOnceMore(t *testing.T) {
	play := func() []int {
		r, h, said := rand.New(rand.NewSource(4)), hist.Hist{}, []int{}
		for range 900 {
			h.Add(r.Intn(1<<31)>>r.Intn(31), r.Intn(50))
			said = append(said, h.Many(), h.Mean(), h.Count(r.Intn(120)), h.Below(r.Intn(1001)))
		}
		return said
	}
	if !slices.Equal(play(), play()) {
		t.Error("not the same")
	}
}
