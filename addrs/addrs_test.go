package addrs_test

import (
	"fmt"
	"math"
	"math/rand"
	"slices"
	"testing"

	"brougham/addrs"
	"brougham/bucket"
)

type addr = addrs.Addr

// odd: numbers at the bounds, next to them, and such as are others when they are cut.
var odd = []int{
	math.MinInt, math.MinInt + 1, -1 << 32, -1<<32 + 1, -1 << 31, -256, -255, -9, -2, -1, 0, 1, 2, 3, 4, 5, 6, 7, 8, 9, 10, 15, 16, 127, 128, 254, 255, 256, 257, 511, 512,
	4095, 4096, 4097, 1 << 16, 1<<31 - 1, 1 << 31, 1 << 32, 1<<32 + 1, 1<<32 + 255, 1 << 62, math.MaxInt - 1, math.MaxInt,
}

// within: the nearer bound of what isn't from low to high.
func within(low, high, n int) int {
	if n < low {
		return low
	}
	if n > high {
		return high
	}
	return n
}

// slow is a table by the words of the chapter.
type slow struct {
	most, paths, tokens int
	l                   []addr
}

func newSlow(most, paths int) *slow {
	return &slow{most: within(0, 8, most), paths: within(1, 4, paths), tokens: 64}
}

func (s *slow) has(id int) bool {
	for _, a := range s.l {
		if a.ID == id {
			return true
		}
	}
	return false
}

func (s *slow) add(a addr) bool {
	if a.ID < 0 || a.ID > 255 {
		return false
	}
	if a.Path < 0 || !(a.Path < s.paths) {
		return false
	}
	for _, b := range s.l {
		if a.ID == b.ID && a.Path == b.Path {
			return false
		}
	}
	if !s.has(a.ID) && len(s.l) == s.most {
		return false
	}
	if s.tokens < 16 {
		return false
	}
	s.tokens -= 16
	if !s.has(a.ID) {
		s.l = append(s.l, a)
		return true
	}
	for i := range s.l {
		if s.l[i].ID == a.ID {
			s.l[i].Path = a.Path
		}
	}
	return true
}

func (s *slow) gone(id int) bool {
	if !s.has(id) {
		return false
	}
	var l []addr
	for _, a := range s.l {
		if a.ID != id {
			l = append(l, a)
		}
	}
	s.l = l
	return true
}

func (s *slow) way() []int {
	var l []int
	for p := 0; p < 4; p++ {
		for _, a := range s.l {
			if a.Path == p {
				l = append(l, p)
				break
			}
		}
	}
	return l
}

func (s *slow) tick(n int) { s.tokens = min(64, s.tokens+within(0, 4096, n)) }

func (s *slow) take() bool {
	if s.tokens == 0 {
		return false
	}
	s.tokens--
	return true
}

// both is a table, the slow one to which the same was done, and what was done.
type both struct {
	tab  *addrs.Table
	slow *slow
	told []string
}

func newBoth(t *testing.T, most, paths int) *both {
	t.Helper()
	b := &both{tab: addrs.New(most, paths), slow: newSlow(most, paths), told: []string{fmt.Sprintf("New(%d, %d)", most, paths)}}
	b.look(t)
	return b
}

// look: does a table say what it is to say, when it is looked at?
func (b *both) look(t *testing.T) {
	t.Helper()
	if got := b.tab.List(); !slices.Equal(got, b.slow.l) {
		t.Fatalf("%v: List: %v, not %v", b.told, got, b.slow.l)
	}
	if got, want := b.tab.Paths(), b.slow.way(); !slices.Equal(got, want) {
		t.Fatalf("%v: Paths: %v, not %v", b.told, got, want)
	}
	if got := b.tab.Left(); got != b.slow.tokens {
		t.Fatalf("%v: Left: %d, not %d", b.told, got, b.slow.tokens)
	}
}

// did: what was done, and what both answered.
func (b *both) did(t *testing.T, told string, got, want bool) {
	t.Helper()
	b.told = append(b.told, told)
	if got != want {
		t.Fatalf("%v: %v, not %v", b.told, got, want)
	}
	b.look(t)
}

func (b *both) add(t *testing.T, id, path int) {
	t.Helper()
	a := addr{ID: id, Path: path}
	b.did(t, fmt.Sprintf("Add(%d on %d)", id, path), b.tab.Add(a), b.slow.add(a))
}

func (b *both) gone(t *testing.T, id int) {
	t.Helper()
	b.did(t, fmt.Sprintf("Gone(%d)", id), b.tab.Gone(id), b.slow.gone(id))
}

func (b *both) tick(t *testing.T, n int) {
	t.Helper()
	b.tab.Tick(n)
	b.slow.tick(n)
	b.did(t, fmt.Sprintf("Tick(%d)", n), true, true)
}

func (b *both) take(t *testing.T) {
	t.Helper()
	b.did(t, "Take", b.tab.Take(), b.slow.take())
}

// add: is an offer heard, as it is to be?
func add(t *testing.T, x *addrs.Table, id, path int, want bool) {
	t.Helper()
	if got := x.Add(addr{ID: id, Path: path}); got != want {
		t.Fatalf("Add(%d on %d): %v, not %v (%v, %d)", id, path, got, want, x.List(), x.Left())
	}
}

// list: is that offered?
func list(t *testing.T, x *addrs.Table, want ...addr) {
	t.Helper()
	if got := x.List(); !slices.Equal(got, want) {
		t.Fatalf("List: %v, not %v", got, want)
	}
}

func TestExample(t *testing.T) {
	x := addrs.New(2, 3)
	add(t, x, 5, 1, true)
	add(t, x, 5, 2, true)
	list(t, x, addr{5, 2})
}

func TestBounds(t *testing.T) {
	if addrs.Burst != 4 || addrs.Every != 16 {
		t.Error(addrs.Burst, addrs.Every)
	}
}

// P20.1

// A new table has no offers, and all tokens.
func TestNew(t *testing.T) {
	for _, most := range odd {
		for _, paths := range odd {
			x := addrs.New(most, paths)
			if x == nil || len(x.List()) != 0 || len(x.Paths()) != 0 || x.Left() != 64 {
				t.Fatalf("New(%d, %d): %+v", most, paths, x)
			}
		}
	}
}

// Just most offers are there at once, from 0 to 8.
func TestMost(t *testing.T) {
	for _, most := range odd {
		x := addrs.New(most, 1)
		for id := range 12 {
			x.Tick(64)
			add(t, x, id, 0, id < within(0, 8, most))
		}
		if n := len(x.List()); n != within(0, 8, most) {
			t.Errorf("New(%d, 1): %d offers", most, n)
		}
	}
}

// Just the paths below paths may be offered, from one to four.
func TestPath(t *testing.T) {
	for _, paths := range odd {
		for _, path := range odd {
			x := addrs.New(8, paths)
			add(t, x, 5, path, path >= 0 && path < within(1, 4, paths))
		}
	}
}

// Just the numbers from 0 to 255 may be.
func TestID(t *testing.T) {
	for id := -300; id < 600; id++ {
		add(t, addrs.New(8, 4), id, 3, id >= 0 && id <= 255)
	}
	for _, id := range odd {
		add(t, addrs.New(1, 1), id, 0, id >= 0 && id <= 255)
	}
}

// What may not be takes no token, and stands nowhere, be there offers or none.
func TestRefused(t *testing.T) {
	for _, filled := range []int{0, 1, 3} {
		b := newBoth(t, 8, 3)
		for id := range filled {
			b.add(t, id, id)
		}
		for _, id := range odd {
			for _, path := range odd {
				if id < 0 || id > 255 || path < 0 || path > 2 {
					b.add(t, id, path)
				}
			}
		}
		if b.tab.Left() != 64-16*filled {
			t.Errorf("%d offers: %d", filled, b.tab.Left())
		}
	}
}

// The very offer that is there isn't heard again, and takes no token; its number on another path, and its path with another number, are.
func TestThere(t *testing.T) {
	x := addrs.New(8, 4)
	add(t, x, 5, 1, true)
	for range 100 {
		add(t, x, 5, 1, false)
	}
	if x.Left() != 48 {
		t.Error(x.Left())
	}
	add(t, x, 6, 1, true)
	add(t, x, 6, 1, false)
	add(t, x, 5, 0, true)
	add(t, x, 5, 0, false)
	add(t, x, 5, 1, true)
	list(t, x, addr{5, 1}, addr{6, 1})
}

// An offer stands in place of the one with its number, wherever that stands; a new number behind all.
func TestInPlace(t *testing.T) {
	for at := range 8 {
		b := newBoth(t, 8, 4)
		for i := range 8 {
			b.tick(t, 16)
			b.add(t, 200-20*i, i%2)
		}
		b.tick(t, 16)
		b.add(t, 200-20*at, 3)
		b.tick(t, 16)
		b.add(t, 200-20*at, 2)
		if got := b.tab.List()[at]; got != (addr{200 - 20*at, 2}) {
			t.Errorf("%d: %v", at, b.tab.List())
		}
	}
}

// Where there are most offers, only the numbers that are there are heard; what isn't takes no token. Once one is gone there is room again.
func TestFull(t *testing.T) {
	for most := range 9 {
		b := newBoth(t, most, 4)
		for id := range most {
			b.tick(t, 16)
			b.add(t, 10+id, 1)
		}
		b.tick(t, 64)
		for id := range 256 {
			if id < 10 || id >= 10+most {
				b.add(t, id, id%4)
			}
		}
		if b.tab.Left() != 64 || len(b.tab.List()) != most {
			t.Fatalf("%d: %v, %d", most, b.tab.List(), b.tab.Left())
		}
		if most == 0 {
			continue
		}
		b.add(t, 10, 2)
		b.gone(t, 10)
		b.add(t, 99, 3)
		b.add(t, 10, 2)
		if got := b.tab.List(); got[most-1] != (addr{99, 3}) {
			t.Fatalf("%d: %v", most, got)
		}
	}
}

// With each number of tokens: from sixteen on an offer is heard, in place of one or behind all, and sixteen are gone; with fewer it isn't, and none is gone.
func TestTokens(t *testing.T) {
	for tokens := range 65 {
		for _, id := range []int{5, 7} {
			x := addrs.New(8, 4)
			add(t, x, 5, 1, true)
			x.Tick(16)
			for range 64 - tokens {
				x.Take()
			}
			add(t, x, id, 2, tokens >= 16)
			want := tokens
			if tokens >= 16 {
				want -= 16
			}
			if x.Left() != want {
				t.Fatalf("%d tokens: %d left, not %d", tokens, x.Left(), want)
			}
			switch {
			case tokens < 16:
				list(t, x, addr{5, 1})
			case id == 5:
				list(t, x, addr{5, 2})
			default:
				list(t, x, addr{5, 1}, addr{7, 2})
			}
		}
	}
}

// Four offers are heard at once, the fifth one behind sixteen ticks; Gone gives no token back, and takes none.
func TestBurst(t *testing.T) {
	x := addrs.New(8, 4)
	for id := range 4 {
		add(t, x, id, id, true)
	}
	add(t, x, 4, 0, false)
	add(t, x, 0, 3, false)
	for id := range 4 {
		if !x.Gone(id) || x.Left() != 0 {
			t.Fatal(id, x.Left())
		}
		add(t, x, id, id, false)
	}
	for range 15 {
		x.Tick(1)
		add(t, x, 4, 0, false)
	}
	x.Tick(1)
	add(t, x, 4, 0, true)
	add(t, x, 5, 0, false)
	list(t, x, addr{4, 0})
}

// The table embeds its bucket: the bucket's calls are the table's, and its tokens are those that offers take.
func TestEmbedded(t *testing.T) {
	x := addrs.New(2, 2)
	var b *bucket.Bucket = x.Bucket
	if !x.Take() || b.Left() != 63 || !b.Take() || x.Left() != 62 {
		t.Fatal(b.Left(), x.Left())
	}
	add(t, x, 1, 1, true)
	if b.Left() != 46 {
		t.Fatal(b.Left())
	}
	b.Tick(17)
	if x.Left() != 63 {
		t.Fatal(x.Left())
	}
	for _, n := range odd {
		want := min(64, x.Left()+within(0, 4096, n))
		x.Tick(n)
		if x.Left() != want {
			t.Fatalf("Tick(%d): %d, not %d", n, x.Left(), want)
		}
		x.Take()
		x.Take()
	}
}

// Gone is of a number that is there, alone, and once; the others stay in their order.
func TestGone(t *testing.T) {
	ids := []int{7, 0, 255, 128, 3, 254, 1, 2}
	for at, id := range ids {
		b := newBoth(t, 8, 4)
		for i, other := range ids {
			b.tick(t, 16)
			b.add(t, other, i%4)
		}
		for _, none := range odd {
			if !slices.Contains(ids, none) {
				b.gone(t, none)
			}
		}
		if len(b.tab.List()) != 8 {
			t.Fatal(b.tab.List())
		}
		b.gone(t, id)
		b.gone(t, id)
		if len(b.tab.List()) != 7 {
			t.Fatalf("%d: %v", at, b.tab.List())
		}
		b.tick(t, 64)
		b.add(t, id, 2)
		if got := b.tab.List()[7]; got != (addr{id, 2}) {
			t.Fatalf("%d: %v", at, b.tab.List())
		}
	}
}

// Of an empty table nothing is gone.
func TestGoneNone(t *testing.T) {
	for _, id := range odd {
		if x := addrs.New(8, 4); x.Gone(id) || x.Left() != 64 {
			t.Fatalf("Gone(%d): true", id)
		}
	}
}

// P20.2

// Each set of paths is told rising, each path once, in whatever order it was offered and however often.
func TestPaths(t *testing.T) {
	for which := range 1 << 12 {
		b := newBoth(t, 6, 4)
		for i := range 6 {
			b.tick(t, 16)
			b.add(t, i, which>>(2*i)&3)
		}
		b.gone(t, which%6)
		b.gone(t, which/6%6)
	}
}

// What is answered is new memory: whoever writes into it, or behind it, turns nothing of the table, and of no other answer.
func TestAnswered(t *testing.T) {
	x := addrs.New(8, 4)
	for id := range 3 {
		add(t, x, id, 3-id, true)
	}
	one, two := x.List(), x.List()
	p, q := x.Paths(), x.Paths()
	for i := range one {
		one[i] = addr{99, 99}
	}
	for i := range p {
		p[i] = 99
	}
	clear(one[len(one):cap(one)])
	_ = append(one[:1], addr{98, 98}, addr{98, 98})
	_ = append(p[:1], 98, 98)
	want := []addr{{0, 3}, {1, 2}, {2, 1}}
	if !slices.Equal(two, want) || !slices.Equal(q, []int{1, 2, 3}) || !slices.Equal(x.Paths(), q) {
		t.Error(two, q, x.Paths())
	}
	list(t, x, want...)
	_ = append(x.List(), addr{97, 97})
	x.Gone(0)
	add(t, x, 5, 0, true)
	if !slices.Equal(two, want) || !slices.Equal(q, []int{1, 2, 3}) {
		t.Error(two, q)
	}
	list(t, x, addr{1, 2}, addr{2, 1}, addr{5, 0})
}

// P20.3

// In each run of ticks offers are heard at most as often as may be; one who offers all the time reaches that from the beginning on.
func TestHowOften(t *testing.T) {
	r := rand.New(rand.NewSource(203))
	for round := range 200 {
		x := addrs.New(1+r.Intn(8), 2+r.Intn(3))
		greedy := round%3 == 0
		heard := []int{0} // how many were heard up to the end of each tick
		for range 100 {
			n := heard[len(heard)-1]
			many := 30
			if !greedy {
				many = r.Intn(2) * r.Intn(30)
			}
			for i := range many {
				if r.Intn(4) == 0 {
					x.Gone(r.Intn(9))
				}
				a := addr{ID: r.Intn(9), Path: r.Intn(4)}
				if greedy {
					a = addr{ID: 1, Path: i % 2}
				}
				if x.Add(a) {
					n++
				}
			}
			heard = append(heard, n)
			x.Tick(1)
		}
		for from := range heard {
			for to := from + 1; to < len(heard); to++ { // to-from ticks' calls, with to-from-1 ticks between them
				if n := heard[to] - heard[from]; n > 4+(to-from-1)/16 {
					t.Fatalf("%d offers in %d ticks", n, to-from)
				}
			}
		}
		if last := len(heard) - 1; greedy && heard[last] != 4+(last-1)/16 {
			t.Errorf("%d offers in %d ticks", heard[last], last)
		}
	}
}

// P1, P2

// Each run of five calls on small tables.
func TestEachRun(t *testing.T) {
	var calls []func(*testing.T, *both)
	for id := range 2 {
		for path := range 3 {
			calls = append(calls, func(t *testing.T, b *both) { b.add(t, id, path) })
		}
		calls = append(calls, func(t *testing.T, b *both) { b.gone(t, id) })
	}
	calls = append(calls, func(t *testing.T, b *both) { b.tick(t, 15) }, func(t *testing.T, b *both) { b.add(t, 9, 1) })
	for _, kind := range [][2]int{{1, 3}, {2, 2}, {3, 3}} {
		for n := range 10 * 10 * 10 * 10 * 10 {
			b := newBoth(t, kind[0], kind[1])
			for range 5 {
				calls[n%10](t, b)
				n /= 10
			}
		}
	}
}

// Drawn runs, most of which go where something is there already, and some of which go anywhere.
func TestDrawn(t *testing.T) {
	r := rand.New(rand.NewSource(20))
	near := func(n int) int {
		if r.Intn(12) == 0 {
			return odd[r.Intn(len(odd))]
		}
		return r.Intn(n)
	}
	for range 2000 {
		b := newBoth(t, near(10), near(6))
		ids := 2 + r.Intn(12)
		for range 150 {
			switch r.Intn(7) {
			case 0:
				b.gone(t, near(ids))
			case 1, 2:
				b.tick(t, near(20))
			case 3:
				b.take(t)
			default:
				b.add(t, near(ids), near(5))
			}
		}
	}
}

// No table matters to another one, and looking changes nothing.
func TestAlone(t *testing.T) {
	one, two := newBoth(t, 3, 3), newBoth(t, 3, 3)
	r := rand.New(rand.NewSource(201))
	for range 3000 {
		b := []*both{one, two}[r.Intn(2)]
		switch r.Intn(4) {
		case 0:
			b.gone(t, r.Intn(5))
		case 1:
			b.tick(t, r.Intn(30))
		default:
			b.add(t, r.Intn(5), r.Intn(4))
		}
		one.look(t)
		two.look(t)
	}
}
