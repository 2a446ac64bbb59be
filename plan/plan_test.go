package plan_test

import (
	"math"
	"math/rand"
	"slices"
	"testing"

	"brougham/plan"
)

type path = plan.Path

// ways: each one there is, then such as are none.
var ways = []plan.Way{plan.Mesh, plan.Spare, plan.Single, 0, -1, -2, -3, 4, 5, 1<<8 + 1, 1<<32 + 1, 1<<32 + 2, 1<<32 + 3, math.MinInt, math.MinInt + 1, math.MinInt + 3, math.MaxInt}

// odd: numbers at the bounds, next to them, and such as go round when one is taken from another one.
var odd = []int{math.MinInt, math.MinInt + 1, -1 << 62, -1<<32 - 1, -1 << 32, -1 << 31, -5, -4, -2, -1, 0, 1, 2, 3, 4, 5, 1 << 31, 1<<32 - 1, 1 << 32, 1<<32 + 1, 1 << 62, math.MaxInt - 1, math.MaxInt}

// free: a path that may be asked for.
func free(id, mean, tries int) path { return path{ID: id, May: true, Mean: mean, Tries: tries} }

// used: a path that is used, as it may be.
func used(id, mean int) path { return path{ID: id, May: true, Used: true, Mean: mean} }

// bad: a path that is used, and avoided.
func bad(id, mean int) path { return path{ID: id, May: true, Used: true, Bad: true, Mean: mean} }

// barred: a path that is used, and may not be.
func barred(id, mean int) path { return path{ID: id, Used: true, Mean: mean} }

// backup: a path like this one, but for need alone.
func backup(p path) path {
	p.Backup = true
	return p
}

// slowFree: the words of the chapter.
func slowFree(p path) bool {
	if !p.May || p.Used {
		return false
	}
	return !(p.Tries >= 4)
}

// slowPick: those of which something holds; again and again the first one, as they are told, that none comes ahead of.
func slowPick(l []path, holds func(path) bool, ahead func(a, b path) bool) []path {
	var left, out []path
	for _, p := range l {
		if holds(p) {
			left = append(left, p)
		}
	}
	for len(left) > 0 {
		best := 0
		for i := range left {
			if ahead(left[i], left[best]) {
				best = i
			}
		}
		out = append(out, left[best])
		left = slices.Delete(left, best, best+1)
	}
	return out
}

func slowFreeAhead(a, b path) bool {
	if a.Tries != b.Tries {
		return a.Tries < b.Tries
	}
	if a.Mean != b.Mean {
		return a.Mean < b.Mean
	}
	return a.ID < b.ID
}

func slowUsedAhead(a, b path) bool {
	if a.Bad != b.Bad {
		return !a.Bad
	}
	if a.Mean != b.Mean {
		return a.Mean < b.Mean
	}
	return a.ID < b.ID
}

// slowMake: the words of the chapter; paths are taken into and out of the plan one by one.
func slowMake(w plan.Way, most int, l []path) plan.Plan {
	var p plan.Plan
	for _, x := range l {
		if x.Used && !x.May {
			p.Drop = append(p.Drop, x.ID)
		}
	}
	frees := slowPick(l, slowFree, slowFreeAhead)
	useds := slowPick(l, func(x path) bool { return x.Used && x.May }, slowUsedAhead)
	goods := 0
	for _, x := range useds {
		if !x.Bad {
			goods++
		}
	}
	there := len(useds)
	room := func() bool { return there < 4 && there < most }
	switch w {
	case 1:
		for _, x := range frees {
			if room() {
				p.Ask = append(p.Ask, x.ID)
				there++
			}
		}
	case 2:
		for _, x := range frees {
			if room() && goods < 2 {
				p.Ask = append(p.Ask, x.ID)
				there++
				goods++
			}
		}
		for i, x := range useds {
			if i > 0 && !x.Backup {
				p.Spare = append(p.Spare, x.ID)
			}
		}
	case 3:
		if len(frees) > 0 && room() && goods == 0 {
			p.Ask = []int{frees[0].ID}
		}
		for i, x := range useds {
			if i > 0 && !useds[0].Bad {
				p.Drop = append(p.Drop, x.ID)
			}
		}
	}
	return p
}

// same: do two plans say the same?
func same(a, b plan.Plan) bool {
	return slices.Equal(a.Ask, b.Ask) && slices.Equal(a.Drop, b.Drop) && slices.Equal(a.Spare, b.Spare)
}

// is: what Make answers.
func is(t *testing.T, w plan.Way, most int, l []path, want plan.Plan) {
	t.Helper()
	if got := plan.Make(w, most, l...); !same(got, want) {
		t.Fatalf("Make(%d, %d, %+v): %+v, not %+v", w, most, l, got, want)
	}
}

// both: what Make answers, as the slow one does.
func both(t *testing.T, w plan.Way, most int, l []path) {
	t.Helper()
	is(t, w, most, l, slowMake(w, most, l))
}

// eachOrder does something with each order of paths.
func eachOrder(l []path, do func([]path)) {
	var turn func(k int)
	turn = func(k int) {
		if k == len(l) {
			do(slices.Clone(l))
			return
		}
		for i := k; i < len(l); i++ {
			l[k], l[i] = l[i], l[k]
			turn(k + 1)
			l[k], l[i] = l[i], l[k]
		}
	}
	turn(0)
}

func TestExample(t *testing.T) {
	eachOrder([]path{used(1, 5), free(2, 9, 0), free(3, 4, 0)}, func(l []path) {
		is(t, plan.Mesh, 2, l, plan.Plan{Ask: []int{3}})
	})
}

func TestBounds(t *testing.T) {
	if plan.Most != 4 || plan.Mesh != 1 || plan.Spare != 2 || plan.Single != 3 {
		t.Error(plan.Most, plan.Mesh, plan.Spare, plan.Single)
	}
}

// P38.1

// A path that is used, and may not be, is given up in each way, as they are told, whatever else is so of it and of how many may be used; no other one is, but with Single.
func TestBarred(t *testing.T) {
	l := []path{barred(7, 1), free(1, 1, 0), {ID: 2}, used(5, 1), backup(barred(3, 9)), {ID: 9, Used: true, Bad: true, Tries: 9}, barred(7, 1), backup(path{ID: 4, Bad: true})}
	for _, w := range ways {
		for _, most := range odd {
			if got := plan.Make(w, most, l...); !slices.Equal(got.Drop, []int{7, 3, 9, 7}) {
				t.Fatalf("Make(%d, %d, %+v): %+v", w, most, l, got)
			}
		}
	}
}

// What is given up neither takes room nor is asked for, nor counts as a good one, nor is for need alone.
func TestBarredOnly(t *testing.T) {
	l := []path{barred(1, 1), barred(2, 1), barred(3, 1), barred(4, 1), barred(5, 1), free(6, 1, 0), free(7, 1, 0), free(8, 1, 0)}
	drop := []int{1, 2, 3, 4, 5}
	is(t, plan.Mesh, 2, l, plan.Plan{Ask: []int{6, 7}, Drop: drop})
	is(t, plan.Mesh, 9, l, plan.Plan{Ask: []int{6, 7, 8}, Drop: drop})
	is(t, plan.Spare, 4, l, plan.Plan{Ask: []int{6, 7}, Drop: drop})
	is(t, plan.Single, 4, l, plan.Plan{Ask: []int{6}, Drop: drop})
}

// A path may be asked for, if it may be used, isn't, and was asked for fewer than four times; whether it is avoided, or for need alone, doesn't matter.
func TestFree(t *testing.T) {
	for n := range 1 << 4 {
		bit := func(i int) bool { return n>>i&1 == 1 }
		for _, tries := range odd {
			p := path{ID: 6, May: bit(0), Used: bit(1), Backup: bit(2), Bad: bit(3), Mean: 5, Tries: tries}
			for _, w := range []plan.Way{plan.Mesh, plan.Spare, plan.Single} {
				var want []int
				if bit(0) && !bit(1) && tries < 4 {
					want = []int{6}
				}
				if got := plan.Make(w, 4, p); !slices.Equal(got.Ask, want) {
					t.Fatalf("Make(%d, 4, %+v): %+v", w, p, got)
				}
			}
		}
	}
}

// Free ones: those that were asked for less often are ahead, then those on which word takes fewer ticks, then the lesser numbers.
func TestFreeOrder(t *testing.T) {
	l := []path{free(9, 50, -1), free(8, 40, 0), free(7, 2, 1), free(3, 3, 1), free(5, 3, 1), free(1, 1, 3), free(0, 0, 4)}
	want := []int{9, 8, 7, 3, 5, 1}
	eachOrder(l, func(l []path) {
		is(t, plan.Mesh, 4, l, plan.Plan{Ask: want[:4]})
		is(t, plan.Mesh, 3, l, plan.Plan{Ask: want[:3]})
		is(t, plan.Spare, 4, l, plan.Plan{Ask: want[:2]})
		is(t, plan.Single, 4, l, plan.Plan{Ask: want[:1]})
	})
	for len(want) > 0 { // each one in its turn, once those ahead of it are barred
		is(t, plan.Single, 4, l, plan.Plan{Ask: want[:1]})
		at := slices.IndexFunc(l, func(p path) bool { return p.ID == want[0] })
		l[at].May = false
		want = want[1:]
	}
}

// Used ones: those that aren't avoided are ahead, then those on which word takes fewer ticks, then the lesser numbers; how often they were asked for, and whether they are for need alone, doesn't matter.
func TestUsedOrder(t *testing.T) {
	l := []path{used(9, 30), backup(used(8, 40)), used(7, 50), used(3, 60), used(5, 60), bad(2, 1), bad(1, 5)}
	for i := range l {
		l[i].Tries = 9 - i
	}
	eachOrder(l, func(l []path) {
		is(t, plan.Spare, 4, l, plan.Plan{Spare: []int{7, 3, 5, 2, 1}})
		is(t, plan.Single, 4, l, plan.Plan{Drop: []int{8, 7, 3, 5, 2, 1}})
	})
}

// Numbers that are far from one another are held against one another still.
func TestFar(t *testing.T) {
	for i, low := range odd {
		for _, high := range odd[i+1:] {
			is(t, plan.Single, 1, []path{free(1, high, 0), free(2, low, 0)}, plan.Plan{Ask: []int{2}})
			is(t, plan.Single, 1, []path{free(high, 5, 0), free(low, 5, 0)}, plan.Plan{Ask: []int{low}})
			is(t, plan.Single, 1, []path{used(1, high), used(2, low)}, plan.Plan{Drop: []int{1}})
			is(t, plan.Spare, 2, []path{used(high, 5), used(low, 5)}, plan.Plan{Spare: []int{high}})
			if high < 4 {
				is(t, plan.Mesh, 2, []path{free(1, 0, high), free(2, 9, low)}, plan.Plan{Ask: []int{2, 1}})
			}
		}
	}
}

// Room is for as many as may be used, of four at most, less those that are; never below none.
func TestRoom(t *testing.T) {
	for _, most := range odd {
		for many := range 7 {
			for _, kind := range []func(int, int) path{used, bad} {
				var l []path
				for i := range many {
					l = append(l, backup(kind(20+i, 1)), barred(40+i, 1))
				}
				for i := range 6 {
					l = append(l, free(i, 1, 0))
				}
				may := 4
				if most < may {
					may = max(most, 0)
				}
				room := max(may-many, 0)
				if got := plan.Make(plan.Mesh, most, l...); !slices.Equal(got.Ask, []int{0, 1, 2, 3, 4, 5}[:room]) || len(got.Spare) > 0 {
					t.Fatalf("Make(Mesh, %d) with %d used: %+v", most, many, got)
				}
				both(t, plan.Spare, most, l)
				both(t, plan.Single, most, l)
			}
		}
	}
}

// Mesh asks for as many as there are, if there is more room, and turns nothing of those that are used.
func TestMesh(t *testing.T) {
	for many := range 6 {
		var l []path
		var want []int
		for i := range many {
			l = append(l, free(i, 1, i%4))
			want = append(want, i)
		}
		slices.SortStableFunc(want, func(a, b int) int { return a%4 - b%4 })
		is(t, plan.Mesh, 4, l, plan.Plan{Ask: want[:min(many, 4)]})
	}
	is(t, plan.Mesh, 4, []path{used(1, 5), bad(2, 1), backup(used(3, 1)), used(4, 9)}, plan.Plan{})
}

// Spare asks for as many as two good ones lack, if there is room for them: those that are avoided, or given up, are none; those for need alone are.
func TestSpare(t *testing.T) {
	two := []path{free(8, 1, 0), free(9, 1, 0), free(7, 1, 1)}
	for _, x := range []struct {
		l    []path
		most int
		want plan.Plan
	}{
		{nil, 4, plan.Plan{Ask: []int{8, 9}}},
		{nil, 2, plan.Plan{Ask: []int{8, 9}}},
		{nil, 1, plan.Plan{Ask: []int{8}}},
		{nil, 0, plan.Plan{}},
		{[]path{used(1, 1)}, 4, plan.Plan{Ask: []int{8}}},
		{[]path{used(1, 1)}, 2, plan.Plan{Ask: []int{8}}},
		{[]path{used(1, 1)}, 1, plan.Plan{}},
		{[]path{backup(used(1, 1))}, 4, plan.Plan{Ask: []int{8}}},
		{[]path{bad(1, 1)}, 4, plan.Plan{Ask: []int{8, 9}}},
		{[]path{bad(1, 1)}, 2, plan.Plan{Ask: []int{8}}},
		{[]path{bad(1, 1), bad(2, 1)}, 4, plan.Plan{Ask: []int{8, 9}, Spare: []int{2}}},
		{[]path{bad(1, 1), bad(2, 1), bad(3, 1)}, 4, plan.Plan{Ask: []int{8}, Spare: []int{2, 3}}},
		{[]path{bad(1, 1), bad(2, 1), bad(3, 1), bad(4, 1)}, 9, plan.Plan{Spare: []int{2, 3, 4}}},
		{[]path{used(1, 9), bad(2, 1)}, 4, plan.Plan{Ask: []int{8}, Spare: []int{2}}},
		{[]path{used(1, 9), used(2, 1)}, 4, plan.Plan{Spare: []int{1}}},
		{[]path{used(1, 9), backup(used(2, 1))}, 4, plan.Plan{Spare: []int{1}}},
		{[]path{backup(used(1, 9)), used(2, 1)}, 4, plan.Plan{}},
		{[]path{used(1, 1), used(2, 2), used(3, 3)}, 4, plan.Plan{Spare: []int{2, 3}}},
		{[]path{used(1, 1), backup(used(2, 2)), used(3, 3)}, 4, plan.Plan{Spare: []int{3}}},
		{[]path{used(1, 1), barred(2, 2), used(3, 3)}, 2, plan.Plan{Drop: []int{2}, Spare: []int{3}}},
	} {
		is(t, plan.Spare, x.most, append(slices.Clone(two), x.l...), x.want)
		is(t, plan.Spare, x.most, append(slices.Clone(x.l), two...), x.want)
	}
}

// Single asks for one, if there is room and no good one; and gives up all but the best one, if that one isn't avoided, behind those that may not be used.
func TestSingle(t *testing.T) {
	two := []path{free(9, 1, 0), free(8, 1, 0)}
	for _, x := range []struct {
		l    []path
		most int
		want plan.Plan
	}{
		{nil, 4, plan.Plan{Ask: []int{8}}},
		{nil, 1, plan.Plan{Ask: []int{8}}},
		{nil, 0, plan.Plan{}},
		{[]path{used(1, 1)}, 4, plan.Plan{}},
		{[]path{backup(used(1, 1))}, 4, plan.Plan{}},
		{[]path{bad(1, 1)}, 2, plan.Plan{Ask: []int{8}}},
		{[]path{bad(1, 1)}, 1, plan.Plan{}},
		{[]path{bad(1, 1), bad(2, 1)}, 3, plan.Plan{Ask: []int{8}}},
		{[]path{bad(1, 1), bad(2, 1)}, 2, plan.Plan{}},
		{[]path{bad(1, 1), bad(2, 1), bad(3, 1), bad(4, 1)}, 9, plan.Plan{}},
		{[]path{bad(1, 1), used(2, 9)}, 4, plan.Plan{Drop: []int{1}}},
		{[]path{used(1, 1), used(2, 2), bad(3, 0)}, 4, plan.Plan{Drop: []int{2, 3}}},
		{[]path{used(5, 5), barred(2, 2), used(4, 4), barred(1, 1)}, 4, plan.Plan{Drop: []int{2, 1, 5}}},
		{[]path{bad(5, 5), barred(2, 2), bad(4, 4), barred(1, 1)}, 4, plan.Plan{Ask: []int{8}, Drop: []int{2, 1}}},
	} {
		is(t, plan.Single, x.most, append(slices.Clone(two), x.l...), x.want)
		is(t, plan.Single, x.most, append(slices.Clone(x.l), two...), x.want)
	}
	is(t, plan.Single, 4, []path{bad(1, 1), free(2, 1, 4)}, plan.Plan{})
}

// A way that is none gives up what may not be used, and no more.
func TestOtherWays(t *testing.T) {
	l := []path{free(1, 1, 0), used(2, 1), used(3, 1), bad(4, 1), barred(5, 1), barred(6, 1)}
	for _, w := range ways[3:] {
		is(t, w, 4, l, plan.Plan{Drop: []int{5, 6}})
		is(t, w, 4, l[:1], plan.Plan{})
	}
}

// Nothing is told: nothing is to be done.
func TestNone(t *testing.T) {
	for _, w := range ways {
		for _, most := range odd {
			is(t, w, most, nil, plan.Plan{})
			is(t, w, most, []path{}, plan.Plan{})
			is(t, w, most, []path{{}, {ID: 1, Backup: true, Bad: true}}, plan.Plan{})
		}
	}
}

// Of used paths that share all by which they are ordered the one that was told first is the first one, however many there are.
func TestAsTold(t *testing.T) {
	for many := 2; many < 60; many++ {
		for _, kind := range []func(int, int) path{used, bad} {
			for at := range many {
				var l []path
				for i := range many {
					p := kind(6, 5)
					if i != at {
						p = backup(p)
					}
					l = append(l, p)
				}
				var want plan.Plan
				if at > 0 {
					want.Spare = []int{6}
				}
				is(t, plan.Spare, 1, l, want)
			}
		}
	}
}

// Of two paths with each of their fields at the edge, in each way, of each number that may be used.
func TestEachTwo(t *testing.T) {
	var all []path
	for n := range 1 << 7 {
		bit := func(i int) int { return n >> i & 1 }
		all = append(all, path{ID: 1 + bit(0), May: bit(1) == 1, Used: bit(2) == 1, Backup: bit(3) == 1, Bad: bit(4) == 1, Mean: 4 + bit(5), Tries: 3 + bit(6)})
	}
	for _, a := range all {
		for _, b := range all {
			for w := plan.Way(0); w < 5; w++ {
				for most := range 4 {
					both(t, w, most, []path{a, b})
				}
			}
		}
	}
}

// P38.2

// What is asked for was free, each one once; and as long as no more were used than may be, no more are with those that are asked for. If more were, none is asked for.
func TestFollows(t *testing.T) {
	r := rand.New(rand.NewSource(382))
	for range 100000 {
		l := drawn(r, r.Intn(10))
		for i, id := range r.Perm(len(l)) {
			l[i].ID = id
		}
		w, most := ways[r.Intn(len(ways))], r.Intn(8)-1
		got := plan.Make(w, most, l...)
		there := 0
		for _, p := range l {
			if p.Used && p.May {
				there++
			}
			if n := count(got.Ask, p.ID); n > 1 || n == 1 && !slowFree(p) {
				t.Fatalf("Make(%d, %d, %+v): %+v", w, most, l, got)
			}
			if slices.Contains(got.Drop, p.ID) && !p.Used || slices.Contains(got.Spare, p.ID) && (!p.Used || !p.May || p.Backup) {
				t.Fatalf("Make(%d, %d, %+v): %+v", w, most, l, got)
			}
		}
		if len(got.Ask) > 0 && there+len(got.Ask) > min(most, 4) {
			t.Fatalf("Make(%d, %d, %+v): %+v", w, most, l, got)
		}
	}
}

// count: how often a number is in a list.
func count(l []int, id int) int {
	n := 0
	for _, x := range l {
		if x == id {
			n++
		}
	}
	return n
}

// Single never gives up the last good path, nor any that may be used while there is no good one.
func TestSingleStays(t *testing.T) {
	r := rand.New(rand.NewSource(383))
	for range 50000 {
		l := drawn(r, r.Intn(8))
		for i, id := range r.Perm(len(l)) {
			l[i].ID = id
		}
		got := plan.Make(plan.Single, 4, l...)
		goods, left, dropped := 0, 0, 0
		for _, p := range l {
			if !p.Used || !p.May {
				continue
			}
			gone := slices.Contains(got.Drop, p.ID)
			if !p.Bad {
				goods++
				if !gone {
					left++
				}
			}
			if gone {
				dropped++
			}
		}
		if goods > 0 && left != 1 || goods == 0 && dropped > 0 {
			t.Fatalf("Make(Single, 4, %+v): %+v", l, got)
		}
	}
}

// P1, P2

// drawn: so many paths that are like one another more often than not.
func drawn(r *rand.Rand, many int) []path {
	var l []path
	for range many {
		l = append(l, path{
			ID: r.Intn(8), May: r.Intn(4) > 0, Used: r.Intn(2) == 0, Backup: r.Intn(3) == 0, Bad: r.Intn(3) == 0,
			Mean: r.Intn(4), Tries: r.Intn(6),
		})
	}
	return l
}

func TestDrawn(t *testing.T) {
	r := rand.New(rand.NewSource(38))
	for range 200000 {
		both(t, ways[r.Intn(4)], r.Intn(8)-1, drawn(r, r.Intn(9)))
	}
}

// Numbers of any size, in each field and each argument.
func TestOdd(t *testing.T) {
	r := rand.New(rand.NewSource(381))
	drawnOdd := func() int { return odd[r.Intn(len(odd))] }
	for range 100000 {
		l := drawn(r, r.Intn(7))
		for i := range l {
			p := &l[i]
			for _, field := range []*int{&p.ID, &p.Mean, &p.Tries} {
				if r.Intn(3) > 0 {
					*field = drawnOdd()
				}
			}
		}
		both(t, ways[r.Intn(len(ways))], drawnOdd(), l)
	}
}

// More paths than there ever are, many of which share all by which they are ordered.
func TestMany(t *testing.T) {
	r := rand.New(rand.NewSource(384))
	for range 20 {
		l := drawn(r, 300)
		for _, w := range ways {
			both(t, w, 4, l)
		}
	}
}

// So many paths that the slow one would take too long.
func TestVeryMany(t *testing.T) {
	l := drawn(rand.New(rand.NewSource(385)), 100000)
	var barredIDs []int
	there := 0
	for i := range l {
		l[i].ID = i
		if l[i].Used && !l[i].May {
			barredIDs = append(barredIDs, i)
		} else if l[i].Used {
			there++
		}
	}
	got := plan.Make(plan.Single, 4, l...)
	if len(got.Ask) > 0 || len(got.Spare) > 0 || len(got.Drop) != len(barredIDs)+there-1 || !slices.Equal(got.Drop[:len(barredIDs)], barredIDs) {
		t.Fatal(len(got.Ask), len(got.Drop), len(got.Spare))
	}
	rest := got.Drop[len(barredIDs):]
	for i := 1; i < len(rest); i++ {
		if a, b := l[rest[i-1]], l[rest[i]]; !slowUsedAhead(a, b) {
			t.Fatalf("%+v ahead of %+v", a, b)
		}
	}
}

// What is handed in isn't changed, and what lies behind its length isn't read.
func TestHandedIn(t *testing.T) {
	all := []path{used(9, 9), free(7, 5, 2), barred(8, 1), free(6, 9, 0), bad(4, 1), used(2, 3), used(1, 1), free(1, 1, 0), barred(3, 3)}
	had := slices.Clone(all)
	for _, w := range ways {
		for n := range len(all) + 1 {
			is(t, w, 4, all[:n], slowMake(w, 4, slices.Clone(had[:n])))
			if !slices.Equal(all, had) {
				t.Fatalf("way %d: %+v", w, all)
			}
		}
	}
}

// What is answered is new memory: whoever writes into one list, or behind it, turns no other list, and no other answer.
func TestAnswered(t *testing.T) {
	l := []path{used(9, 9), free(7, 5, 2), barred(8, 1), free(6, 9, 0), used(5, 4), bad(4, 1)}
	for _, w := range ways {
		for most := range 6 {
			one, two := plan.Make(w, most, l...), plan.Make(w, most, l...)
			want := slowMake(w, most, l)
			for i := range 3 {
				lists := []*[]int{&one.Ask, &one.Drop, &one.Spare}
				clear((*lists[i])[:cap(*lists[i])])
				_ = append(*lists[i], 99, 99, 99)
				*lists[i] = []([]int){want.Ask, want.Drop, want.Spare}[i]
				if !same(one, want) || !same(two, want) {
					t.Fatalf("way %d: %+v, %+v, not %+v", w, one, two, want)
				}
			}
			is(t, w, most, l, want)
		}
	}
}

// The same is answered once more, whatever was asked between: nothing is kept of what was asked for.
func TestOnceMore(t *testing.T) {
	r := rand.New(rand.NewSource(386))
	l := []path{used(1, 9), free(2, 4, 0), free(3, 3, 0), bad(4, 1), barred(5, 5)}
	for range 3000 {
		is(t, plan.Mesh, 4, l, plan.Plan{Ask: []int{3, 2}, Drop: []int{5}})
		is(t, plan.Spare, 4, l, plan.Plan{Ask: []int{3}, Drop: []int{5}, Spare: []int{4}})
		is(t, plan.Single, 4, l, plan.Plan{Drop: []int{5, 4}})
		both(t, ways[r.Intn(len(ways))], r.Intn(6), drawn(r, r.Intn(6)))
	}
}
