package sched_test

import (
	"math"
	"math/rand"
	"slices"
	"testing"

	"brougham/api"
	"brougham/sched"
)

type path = sched.Path

// policies: each one there is, then such as are none.
var policies = []api.Policy{api.Lowest, api.Turns, api.Redundant, 0, -1, -2, 4, 1<<32 + 2, 1<<32 + 3, 1<<8 + 2, math.MinInt, math.MinInt + 2, math.MaxInt}

// odd: numbers at the bounds, next to them, and such as go round when one is taken from another one.
var odd = []int{math.MinInt, math.MinInt + 1, -1 << 62, -1<<32 - 1, -1 << 32, -1 << 31, -2, -1, 0, 1, 2, 3, 1 << 31, 1<<32 - 1, 1 << 32, 1<<32 + 1, 1 << 62, math.MaxInt - 1, math.MaxInt}

// at: a path that is there and has room for 100 bytes.
func at(id, mean int) path { return path{ID: id, Up: true, Room: 100, Under: 1, Mean: mean} }

// ranked: a path of a rank.
func ranked(p path, rank int) path {
	p.Backup, p.Bad = rank%2 == 1, rank >= 2
	return p
}

// slowFits: the words of the chapter.
func slowFits(p path, n int) bool {
	if !p.Up {
		return false
	}
	if p.Under == 0 {
		return true
	}
	return !(p.Room < n)
}

// slowRank: the words of the chapter.
func slowRank(p path) int {
	return map[[2]bool]int{{false, false}: 0, {true, false}: 1, {false, true}: 2, {true, true}: 3}[[2]bool{p.Backup, p.Bad}]
}

// slowAhead: does a path come ahead of another one?
func slowAhead(policy api.Policy, last int, a, b path) bool {
	if ra, rb := slowRank(a), slowRank(b); ra != rb {
		return ra < rb
	}
	if policy == 2 {
		if above, other := a.ID > last, b.ID > last; above != other {
			return above
		}
	} else if a.Mean != b.Mean {
		return a.Mean < b.Mean
	}
	return a.ID < b.ID
}

// slowOrdered: again and again the first one, as they are told, that none comes ahead of.
func slowOrdered(policy api.Policy, last, n int, l []path) []path {
	var left, out []path
	for _, p := range l {
		if slowFits(p, n) {
			left = append(left, p)
		}
	}
	for len(left) > 0 {
		best := 0
		for i := range left {
			if slowAhead(policy, last, left[i], left[best]) {
				best = i
			}
		}
		out = append(out, left[best])
		left = slices.Delete(left, best, best+1)
	}
	return out
}

// slowChoose: the first one, or all of its rank.
func slowChoose(policy api.Policy, last, n int, l []path) []path {
	o := slowOrdered(policy, last, n, l)
	var out []path
	for i, p := range o {
		if i == 0 || policy == 3 && slowRank(p) == slowRank(o[0]) {
			out = append(out, p)
		}
	}
	return out
}

// idsOf: the numbers of paths.
func idsOf(l []path) []int {
	var out []int
	for _, p := range l {
		out = append(out, p.ID)
	}
	return out
}

// alone: has each path a number of its own?
func alone(l []path) bool {
	seen := map[int]int{}
	for _, p := range l {
		seen[p.ID]++
	}
	return len(seen) == len(l)
}

// order: what Order answers.
func order(t *testing.T, policy api.Policy, last, n int, l []path, want ...int) {
	t.Helper()
	if got := sched.Order(policy, last, n, l...); !slices.Equal(got, want) {
		t.Fatalf("Order(%d, %d, %d, %+v): %v, not %v", policy, last, n, l, got, want)
	}
}

// choose: what Choose answers.
func choose(t *testing.T, policy api.Policy, last, n int, l []path, want ...int) {
	t.Helper()
	if got := sched.Choose(policy, last, n, l...); !slices.Equal(got, want) {
		t.Fatalf("Choose(%d, %d, %d, %+v): %v, not %v", policy, last, n, l, got, want)
	}
}

// both: what both answer, as the slow ones do; of paths that share a number Choose is only asked.
func both(t *testing.T, policy api.Policy, last, n int, l []path) {
	t.Helper()
	order(t, policy, last, n, l, idsOf(slowOrdered(policy, last, n, l))...)
	if alone(l) {
		choose(t, policy, last, n, l, idsOf(slowChoose(policy, last, n, l))...)
		return
	}
	choose(t, policy, last, n, l, sched.Choose(policy, last, n, l...)...)
}

// eachOrder does something with each order of paths.
func eachOrder(l []path, do func([]path)) {
	var turn func(k int)
	turn = func(k int) {
		if k == len(l) {
			do(slices.Clone(l))
			return
		}
		for i := k; i < len(l); i++ {
			l[k], l[i] = l[i], l[k]
			turn(k + 1)
			l[k], l[i] = l[i], l[k]
		}
	}
	turn(0)
}

func TestExample(t *testing.T) {
	l := []path{at(1, 9), ranked(at(2, 4), 1)}
	for _, policy := range policies {
		choose(t, policy, 0, 5, l, 1)
		order(t, policy, 0, 5, l, 1, 2)
	}
}

// P19.1

// A path that is there takes a piece if its room is as much, or nothing is under way on it; one that isn't takes none.
func TestFits(t *testing.T) {
	for _, x := range []struct {
		room, under, n int
		want           bool
	}{
		{10, 1, 9, true}, {10, 1, 10, true}, {10, 1, 11, false}, {10, 5000, 10, true}, {10, 5000, 11, false},
		{0, 1, 0, true}, {0, 1, 1, false}, {1, 1, 1, true}, {0, 100, 1024, false}, {1023, 1, 1024, false}, {1024, 1, 1024, true},
		{0, 0, 1, true}, {10, 0, 11, true}, {10, 0, 10, true}, {0, 0, 0, true}, {0, 0, math.MaxInt, true}, {math.MinInt, 0, math.MaxInt, true},
		{0, -1, 1, false}, {1, -1, 1, true}, {10, math.MinInt, 11, false}, {10, math.MaxInt, 10, true}, {0, 1 << 32, 1, false},
		{-1, 1, 0, false}, {-1, 1, -1, true}, {-2, 1, -1, false}, {0, 1, -1, true}, {math.MinInt, 1, math.MinInt, true}, {math.MinInt, 1, math.MaxInt, false}, {math.MaxInt, 1, math.MaxInt, true}, {math.MaxInt, 1, math.MinInt, true}, {math.MaxInt - 1, 1, math.MaxInt, false},
	} {
		for _, policy := range policies {
			for rank := range 4 {
				p := ranked(path{ID: 7, Up: true, Room: x.room, Under: x.under, Mean: 3}, rank)
				var want []int
				if x.want {
					want = []int{7}
				}
				order(t, policy, 0, x.n, []path{p}, want...)
				choose(t, policy, 0, x.n, []path{p}, want...)
				p.Up = false
				order(t, policy, 0, x.n, []path{p})
				choose(t, policy, 0, x.n, []path{p})
			}
		}
	}
}

// Those that fit are told, each one, and no others, wherever they stand.
func TestFitsAmong(t *testing.T) {
	for which := range 1 << 6 {
		var l []path
		var want []int
		for i := range 6 {
			p := at(10+i, 4)
			if which>>i&1 == 0 {
				p = []path{{ID: 10 + i, Room: 100}, {ID: 10 + i, Up: true, Room: 49, Under: 1}}[i%2]
			} else {
				want = append(want, p.ID)
			}
			l = append(l, p)
		}
		for _, policy := range policies {
			order(t, policy, 0, 50, l, want...)
		}
	}
}

// The rank is ahead of all else: of how many ticks word takes, of whose turn it is, of the number.
func TestRank(t *testing.T) {
	l := []path{ranked(at(5, 40), 0), ranked(at(4, 30), 1), ranked(at(3, 20), 2), ranked(at(2, 10), 3)}
	eachOrder(l, func(l []path) {
		for _, policy := range policies {
			for last := range 7 {
				order(t, policy, last, 50, l, 5, 4, 3, 2)
				choose(t, policy, last, 50, l, 5)
			}
		}
	})
}

// Of each two ranks the lesser one is ahead, and one that doesn't fit is in nobody's way.
func TestRanks(t *testing.T) {
	for low := range 4 {
		for high := low + 1; high < 4; high++ {
			l := []path{ranked(at(1, 1), high), ranked(at(2, 9), low)}
			for _, policy := range policies {
				order(t, policy, 0, 50, l, 2, 1)
				full := slices.Clone(l)
				full[1].Room = 49
				order(t, policy, 0, 50, full, 1)
			}
		}
	}
}

// Of the same rank that one is ahead of which word comes sooner, whichever its number and the last one, with all policies but Turns.
func TestMean(t *testing.T) {
	for _, policy := range policies {
		if policy == api.Turns {
			continue
		}
		for rank := range 4 {
			l := []path{ranked(at(9, 1), rank), ranked(at(5, 2), rank), ranked(at(7, 30), rank), ranked(at(1, 4096), rank)}
			eachOrder(l, func(l []path) {
				for last := range 11 {
					order(t, policy, last, 50, l, 9, 5, 7, 1)
				}
			})
		}
	}
}

// Numbers that are far from one another are held against one another still.
func TestMeanFar(t *testing.T) {
	for i, low := range odd {
		for _, high := range odd[i+1:] {
			order(t, api.Lowest, 0, 50, []path{at(1, high), at(2, low)}, 2, 1)
			order(t, api.Redundant, 0, 50, []path{at(2, low), at(1, high)}, 2, 1)
			order(t, api.Lowest, 0, 50, []path{at(high, 5), at(low, 5)}, low, high)
			order(t, api.Turns, math.MaxInt, 50, []path{at(high, 5), at(low, 5)}, low, high)
			order(t, api.Turns, low, 50, []path{at(high, 9), at(low, 5)}, high, low)
			order(t, api.Turns, high, 50, []path{at(high, 5), at(low, 9)}, low, high)
		}
	}
}

// With Turns those above the last one are ahead, by their numbers; how many ticks word takes doesn't matter.
func TestTurns(t *testing.T) {
	for rank := range 4 {
		l := []path{ranked(at(1, 40), rank), ranked(at(3, 5), rank), ranked(at(4, 30), rank), ranked(at(6, 20), rank)}
		eachOrder(l, func(l []path) {
			for last, want := range map[int][]int{
				math.MinInt: {1, 3, 4, 6}, -1: {1, 3, 4, 6}, 0: {1, 3, 4, 6}, 1: {3, 4, 6, 1}, 2: {3, 4, 6, 1}, 3: {4, 6, 1, 3},
				4: {6, 1, 3, 4}, 5: {6, 1, 3, 4}, 6: {1, 3, 4, 6}, 7: {1, 3, 4, 6}, math.MaxInt: {1, 3, 4, 6},
			} {
				order(t, api.Turns, last, 50, l, want...)
				choose(t, api.Turns, last, 50, l, want[0])
			}
		})
	}
}

// Turn by turn each path of the rank is chosen once a round, and the others never.
func TestRounds(t *testing.T) {
	l := []path{at(8, 1), at(2, 9), ranked(at(5, 1), 1), at(-3, 7), {ID: 6, Room: 100}, ranked(at(7, 1), 2)}
	last := 0
	for range 5 {
		for _, want := range []int{2, 8, -3} {
			choose(t, api.Turns, last, 50, l, want)
			last = want
		}
	}
}

// Of the same ticks the lesser number is ahead; numbers may be any, and needn't be paths'.
func TestNumber(t *testing.T) {
	l := []path{at(-7, 5), at(0, 5), at(2, 5), at(1<<32+1, 5)}
	eachOrder(l, func(l []path) {
		for _, policy := range policies {
			order(t, policy, -8, 50, l, -7, 0, 2, 1<<32+1)
		}
	})
}

// A number that is told more than once is answered as often, each in its place.
func TestToldTwice(t *testing.T) {
	l := []path{at(3, 9), at(1, 5), at(3, 1), at(3, 9), ranked(at(1, 1), 2), {ID: 3}}
	order(t, api.Lowest, 0, 50, l, 3, 1, 3, 3, 1)
	order(t, api.Redundant, 0, 50, l, 3, 1, 3, 3, 1)
	order(t, api.Turns, 0, 50, l, 1, 3, 3, 3, 1)
	order(t, api.Turns, 1, 50, l, 3, 3, 3, 1, 1)
}

// Of two paths with each of their fields at the edge, and each last one, with each policy.
func TestEachTwo(t *testing.T) {
	var all []path
	for n := range 1 << 7 {
		bit := func(i int) int { return n >> i & 1 }
		all = append(all, path{ID: 1 + bit(0), Up: bit(1) == 1, Backup: bit(2) == 1, Bad: bit(3) == 1, Room: 9 + bit(4), Under: bit(5), Mean: 4 + bit(6)})
	}
	for _, a := range all {
		for _, b := range all {
			for policy := api.Policy(0); policy < 5; policy++ {
				for last := range 3 {
					both(t, policy, last, 10, []path{a, b})
				}
			}
		}
	}
}

// P19.2

// One alone, the first one of the order, with all policies but Redundant.
func TestChoose(t *testing.T) {
	l := []path{at(4, 9), at(2, 7), at(6, 7), ranked(at(1, 1), 1), ranked(at(9, 1), 3)}
	for _, policy := range policies {
		switch policy {
		case api.Redundant:
			choose(t, policy, 4, 50, l, 2, 6, 4)
		case api.Turns:
			choose(t, policy, 4, 50, l, 6)
		default:
			choose(t, policy, 4, 50, l, 2)
		}
	}
}

// With Redundant all of the first one's rank, as they are ordered, be there one or many; of no other rank, above it or at its side.
func TestRedundant(t *testing.T) {
	for which := range 1 << 4 {
		for many := 1; many < 4; many++ {
			var l []path
			var want []int
			for rank := range 4 {
				first := len(want) == 0
				for i := range many {
					if which>>rank&1 == 1 {
						p := ranked(at(10*rank+i, 50-5*i-rank), rank)
						l = append([]path{p}, l...)
						if first {
							want = append([]int{p.ID}, want...)
						}
					}
				}
			}
			for last := range 40 {
				choose(t, api.Redundant, last, 50, l, want...)
			}
		}
	}
}

// The best rank is that of those that fit: where none of a lesser one does, the next one's are chosen.
func TestRedundantFits(t *testing.T) {
	l := []path{{ID: 1, Room: 100}, {ID: 2, Up: true, Room: 49, Under: 1}, ranked(at(4, 9), 1), ranked(at(3, 9), 1), ranked(path{ID: 5, Up: true, Room: 49, Under: 1}, 1), ranked(at(6, 1), 2)}
	choose(t, api.Redundant, 0, 50, l, 3, 4)
	choose(t, api.Redundant, 0, 49, l, 2)
	choose(t, api.Redundant, 0, 100, l, 3, 4)
	choose(t, api.Redundant, 0, 101, l)
}

// None, if none fits, or none is told.
func TestNone(t *testing.T) {
	for _, policy := range policies {
		for _, l := range [][]path{nil, {}, {{}}, {{Room: 100}, {Room: 100, Under: 1}}, {{ID: 1, Up: true, Room: 49, Under: 1}, {ID: 2, Up: true, Under: 50}}} {
			order(t, policy, 0, 50, l)
			choose(t, policy, 0, 50, l)
		}
	}
}

// P19.3

// A path that is avoided, for need alone, or both, is chosen where no other one fits.
func TestNeverShutOut(t *testing.T) {
	for _, policy := range policies {
		for rank := 1; rank < 4; rank++ {
			p := ranked(at(4, 4096), rank)
			choose(t, policy, 4, 50, []path{p}, 4)
			choose(t, policy, 4, 50, []path{{ID: 1, Room: 100, Mean: 1}, {ID: 2, Up: true, Room: 49, Under: 1, Mean: 1}, p, {ID: 7}}, 4)
			p.Room, p.Under = 0, 0
			choose(t, policy, 4, 50, []path{{ID: 1, Room: 100, Mean: 1}, p, {ID: 9, Up: true, Room: 49, Under: 51}}, 4)
		}
	}
}

// Wherever one fits, one is chosen; and a path is among those of the order whatever is held against it.
func TestAlwaysOne(t *testing.T) {
	r := rand.New(rand.NewSource(193))
	for range 100000 {
		l := drawn(r, 1+r.Intn(6))
		policy, last, n := policies[r.Intn(len(policies))], r.Intn(8)-1, r.Intn(4)
		fit := 0
		for _, p := range l {
			if p.Up && (p.Room >= n || p.Under == 0) {
				fit++
			}
		}
		if got := sched.Order(policy, last, n, l...); len(got) != fit {
			t.Fatalf("Order(%d, %d, %d, %+v): %v", policy, last, n, l, got)
		}
		if got := sched.Choose(policy, last, n, l...); alone(l) && (len(got) > 0) != (fit > 0) {
			t.Fatalf("Choose(%d, %d, %d, %+v): %v", policy, last, n, l, got)
		}
	}
}

// P1, P2

// drawn: so many paths that are like one another more often than not.
func drawn(r *rand.Rand, many int) []path {
	var l []path
	for range many {
		l = append(l, path{
			ID: r.Intn(8), Up: r.Intn(5) > 0, Backup: r.Intn(2) == 0, Bad: r.Intn(2) == 0,
			Room: r.Intn(4), Under: r.Intn(3), Mean: r.Intn(4),
		})
	}
	return l
}

func TestDrawn(t *testing.T) {
	r := rand.New(rand.NewSource(19))
	for range 100000 {
		l := drawn(r, r.Intn(8))
		if r.Intn(2) == 0 {
			for i, id := range r.Perm(len(l)) {
				l[i].ID = id
			}
		}
		both(t, policies[r.Intn(len(policies))], r.Intn(9)-1, r.Intn(4), l)
	}
}

// Numbers of any size, in each field and each argument.
func TestOdd(t *testing.T) {
	r := rand.New(rand.NewSource(191))
	drawnOdd := func() int { return odd[r.Intn(len(odd))] }
	for range 100000 {
		l := drawn(r, r.Intn(6))
		for i := range l {
			p := &l[i]
			for _, field := range []*int{&p.ID, &p.Room, &p.Under, &p.Mean} {
				if r.Intn(3) > 0 {
					*field = drawnOdd()
				}
			}
		}
		both(t, policies[r.Intn(len(policies))], drawnOdd(), drawnOdd(), l)
	}
}

// More paths than a connection ever has.
func TestMany(t *testing.T) {
	r := rand.New(rand.NewSource(192))
	for _, policy := range policies {
		l := drawn(r, 300)
		both(t, policy, 4, 2, l)
		for i, id := range r.Perm(len(l)) {
			l[i].ID = id
		}
		both(t, policy, 150, 2, l)
	}
}

// So many paths that the slow order would take too long: each one that fits is there, and of two that are next to one another none is misplaced.
func TestVeryMany(t *testing.T) {
	l := drawn(rand.New(rand.NewSource(195)), 100000)
	fit := 0
	for i := range l {
		l[i].ID = i
		if slowFits(l[i], 2) {
			fit++
		}
	}
	for _, policy := range policies[:3] {
		got := sched.Order(policy, 50000, 2, l...)
		if len(got) != fit {
			t.Fatalf("policy %d: %d, not %d", policy, len(got), fit)
		}
		for i := 1; i < len(got); i++ {
			if a, b := l[got[i-1]], l[got[i]]; !slowAhead(policy, 50000, a, b) || !slowFits(a, 2) || !slowFits(b, 2) {
				t.Fatalf("policy %d: %+v ahead of %+v", policy, a, b)
			}
		}
	}
}

// What is handed in isn't changed, and what lies behind its length isn't read.
func TestHandedIn(t *testing.T) {
	room := []path{ranked(at(3, 9), 1), at(2, 8), {ID: 9}, at(1, 7), at(5, 1), at(4, 1)}
	had := slices.Clone(room)
	for _, policy := range policies {
		order(t, policy, 0, 50, room[:2], 2, 3)
		choose(t, policy, 0, 50, room[:2], 2)
		order(t, policy, 9, 50, room[:4], idsOf(slowOrdered(policy, 9, 50, had[:4]))...)
		choose(t, policy, 9, 50, room[:0])
		if !slices.Equal(room, had) {
			t.Fatalf("policy %d: %+v", policy, room)
		}
	}
}

// What is answered is new memory: whoever writes into it turns no other answer.
func TestAnswered(t *testing.T) {
	l := []path{at(1, 1), at(2, 2), at(3, 3)}
	for _, policy := range policies {
		for _, call := range []func(api.Policy, int, int, ...path) []int{sched.Order, sched.Choose} {
			one, two := call(policy, 0, 50, l...), call(policy, 0, 50, l...)
			want := slices.Clone(two)
			clear(one[:cap(one)])
			if !slices.Equal(two, want) || !slices.Equal(call(policy, 0, 50, l...), want) {
				t.Errorf("policy %d: %v, not %v", policy, two, want)
			}
		}
	}
}

// The same is answered once more, whatever was asked between: nothing is kept of whose turn it was.
func TestOnceMore(t *testing.T) {
	r := rand.New(rand.NewSource(194))
	l := []path{at(1, 9), at(2, 4), at(3, 4), ranked(at(4, 1), 1)}
	for range 3000 {
		choose(t, api.Turns, 1, 50, l, 2)
		choose(t, api.Lowest, 1, 50, l, 2)
		choose(t, api.Redundant, 1, 50, l, 2, 3, 1)
		order(t, api.Turns, 2, 50, l, 3, 1, 2, 4)
		both(t, policies[r.Intn(len(policies))], r.Intn(9), r.Intn(4), drawn(r, r.Intn(6)))
	}
}
