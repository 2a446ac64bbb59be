package table_test

import (
	"encoding/binary"
	"fmt"
	"maps"
	"math"
	"math/rand"
	"slices"
	"testing"

	"brougham/api"
	"brougham/sip"
	"brougham/table"
)

// oddKeys: keys under which names have other homes.
var oddKeys = []api.Pair{{}, {K0: 1}, {K1: 1}, {K0: 0x0706050403020100, K1: 0x0f0e0d0c0b0a0908}, {K0: math.MaxUint64, K1: math.MaxUint64}}

// oddNames: names at the bounds and near to one another.
var oddNames = []uint32{0, 1, 2, 3, 7, 8, 9, 255, 256, 257, 511, 512, 513, 1 << 16, 1 << 24, math.MaxInt32, math.MaxInt32 + 1, math.MaxUint32 - 1, math.MaxUint32}

// oddValues: numbers that names may have.
var oddValues = []int{0, 1, -1, 2, 255, 256, math.MaxInt, math.MinInt}

// slow is a table that keeps its names in a map.
type slow struct {
	most, peak int
	names      map[uint32]int
}

func newSlow(most int) *slow {
	if most < 1 {
		most = 1
	}
	if most > 256 {
		most = 256
	}
	return &slow{most: most, names: map[uint32]int{}}
}

func (s *slow) put(name uint32, value int) bool {
	if _, is := s.names[name]; !is && len(s.names) == s.most {
		return false
	}
	s.names[name] = value
	s.peak = max(s.peak, len(s.names))
	return true
}

func (s *slow) del(name uint32) bool {
	_, is := s.names[name]
	delete(s.names, name)
	return is
}

func (s *slow) list(values ...int) []uint32 {
	var l []uint32
	for _, name := range slices.Sorted(maps.Keys(s.names)) {
		for i := 0; i <= len(values); i++ {
			if i == len(values) && i > 0 {
				break
			}
			if len(values) == 0 || values[i] == s.names[name] {
				l = append(l, name)
				break
			}
		}
	}
	return l
}

// same: do both tables say the same of all names, and of some others?
func same(t *testing.T, x *table.Table, s *slow, others ...uint32) {
	t.Helper()
	if x.Len() != len(s.names) {
		t.Fatalf("Len: %d, not %d", x.Len(), len(s.names))
	}
	if got, want := x.Names(), s.list(); !slices.Equal(got, want) {
		t.Fatalf("Names: %v, not %v", got, want)
	}
	for name, value := range s.names {
		if got, ok := x.Get(name); got != value || !ok {
			t.Fatalf("Get(%d): %d, %v, not %d", name, got, ok, value)
		}
	}
	for _, name := range others {
		value, is := s.names[name]
		if got, ok := x.Get(name); got != value || ok != is {
			t.Fatalf("Get(%d): %d, %v, not %d, %v", name, got, ok, value, is)
		}
	}
	fits(t, x, s.peak)
}

// fits: are there no more places than there may be, with so many names at once at the most?
func fits(t *testing.T, x *table.Table, peak int) {
	t.Helper()
	if n := x.Places(); n < x.Len() || n > max(4*peak, 8) {
		t.Fatalf("Places: %d, of %d names, %d at once", n, x.Len(), peak)
	}
}

// crowd: names that a table under a key would rather have at the same one of so many places: those whose sums have the same remainder.
func crowd(key api.Pair, places, rest uint64, many int) []uint32 {
	var l []uint32
	for name := uint32(0); len(l) < many; name++ {
		if sip.Sum(key, binary.BigEndian.AppendUint32(nil, name))%places == rest {
			l = append(l, name)
		}
	}
	return l
}

// P40.1

func TestExample(t *testing.T) {
	for _, key := range oddKeys {
		x := table.New(key, 2)
		if !x.Put(7, 1) || !x.Put(9, 1) || !x.Delete(7) || !slices.Equal(x.Names(), []uint32{9}) {
			t.Error(x.Names())
		}
	}
	if table.Room != 256 {
		t.Error(table.Room)
	}
}

// As many names as may be, and one more: it isn't let in, and nothing is turned; a name that is there may have another number still.
func TestMost(t *testing.T) {
	bounds := map[int]int{math.MinInt: 1, -256: 1, -1: 1, 0: 1, 1: 1, 257: 256, 258: 256, 512: 256, 1 << 32: 256, math.MaxInt: 256}
	for most := 2; most <= 256; most++ {
		bounds[most] = most
	}
	for most, want := range bounds {
		x, s := table.New(api.Pair{K0: uint64(most)}, most), newSlow(most)
		for i := range want {
			if x.Len() != i || !x.Put(uint32(i*i), i) || !s.put(uint32(i*i), i) {
				t.Fatalf("New(%d): name %d isn't let in", most, i)
			}
			fits(t, x, i+1)
		}
		for _, name := range []uint32{2, 5, math.MaxUint32} {
			if x.Put(name, 7) || s.put(name, 7) {
				t.Fatalf("New(%d): name %d is let in as one too many", most, name)
			}
			same(t, x, s, name, 0, 1, 4)
		}
		last := uint32((want - 1) * (want - 1))
		if !x.Put(last, -9) || !s.put(last, -9) {
			t.Fatalf("New(%d): a name may have no other number", most)
		}
		same(t, x, s, 2, 5)
		if !x.Delete(last) || !s.del(last) || !x.Put(2, 8) || !s.put(2, 8) || x.Put(last, 1) {
			t.Fatalf("New(%d): no name in place of one that went", most)
		}
		same(t, x, s, last, 5)
	}
}

func TestEmpty(t *testing.T) {
	for _, key := range oddKeys {
		x := table.New(key, 9)
		for _, name := range oddNames {
			if n, ok := x.Get(name); n != 0 || ok || x.Delete(name) {
				t.Error(name, n, ok)
			}
		}
		if x.Len() != 0 || len(x.Names()) != 0 || len(x.Names(0)) != 0 || len(x.Names(oddValues...)) != 0 || x.Places() > 8 {
			t.Error(x.Len(), x.Names(), x.Places())
		}
	}
}

// A name that has the number 0 has one.
func TestOdd(t *testing.T) {
	for _, key := range oddKeys {
		x, s := table.New(key, 256), newSlow(256)
		for i, name := range oddNames {
			for _, value := range append(oddValues, oddValues[i%len(oddValues)]) {
				if !x.Put(name, value) || !s.put(name, value) {
					t.Fatal(name, value)
				}
				if got, ok := x.Get(name); got != value || !ok || x.Len() != i+1 {
					t.Fatalf("Get(%d): %d, %v, not %d", name, got, ok, value)
				}
			}
		}
		same(t, x, s, 4, 5, 6)
		for _, name := range oddNames {
			if !x.Delete(name) || x.Delete(name) || !s.del(name) {
				t.Fatal(name)
			}
			same(t, x, s, oddNames...)
		}
	}
}

func TestNames(t *testing.T) {
	for _, key := range oddKeys {
		x, s := table.New(key, 256), newSlow(256)
		for i, name := range oddNames {
			x.Put(name, oddValues[i%len(oddValues)])
			s.put(name, oddValues[i%len(oddValues)])
		}
		for _, values := range [][]int{nil, {}, {0}, {1}, {-1}, {3}, {3, 4}, {0, 0}, {1, 0}, {0, 1}, {-1, 0, -1}, {math.MaxInt}, {math.MinInt}, {math.MinInt, 7, math.MaxInt}, oddValues, slices.Repeat([]int{2}, 1000)} {
			old := slices.Clone(values)
			got := x.Names(values...)
			if want := s.list(values...); !slices.Equal(got, want) || !slices.Equal(values, old) {
				t.Errorf("Names(%v): %v, not %v", values, got, want)
			}
			for i := range got {
				got[i] = 99
			}
		}
		same(t, x, s)
		if got := x.Names(oddValues[:1]...); !slices.Equal(got, s.list(0)) { // what lies behind the length isn't read
			t.Errorf("Names(0): %v", got)
		}
	}
}

// Each run of few calls, of names that crowd one place (the first one, the last one, or both, so that they go round), beside some that stand still.
func TestEachRun(t *testing.T) {
	const long = 6
	key := oddKeys[3]
	first, last := crowd(key, 512, 0, 3), crowd(key, 512, 511, 3)
	for _, names := range [][]uint32{first, last, {first[0], last[0], last[1]}, {1, 2, 3}} {
		for run := range 6 * 6 * 6 * 6 * 6 * 6 {
			x, s := table.New(key, 2), newSlow(2)
			for i := range long {
				name := names[run%3]
				if run/3%2 == 0 {
					if x.Put(name, i) != s.put(name, i) {
						t.Fatal(run)
					}
				} else if x.Delete(name) != s.del(name) {
					t.Fatal(run)
				}
				run /= 6
			}
			same(t, x, s, names...)
		}
	}
}

// Names of which all, or most, crowd one place or two next to one another, with each one deleted and put again in any order.
func TestCrowd(t *testing.T) {
	r := rand.New(rand.NewSource(1))
	for i, key := range oddKeys {
		for _, names := range [][]uint32{
			crowd(key, 512, 511, 60),
			slices.Concat(crowd(key, 512, 510, 40), crowd(key, 512, 511, 40), crowd(key, 512, 0, 40)),
			slices.Concat(crowd(key, 512, uint64(i), 50), crowd(key, 64, uint64(i), 200)),
			crowd(key, 8, 7, 256),
			crowd(key, 16, 3, 256),
		} {
			slices.Sort(names)
			names = slices.Compact(names)
			x, s := table.New(key, 256), newSlow(256)
			for range 3 {
				for i, at := range r.Perm(len(names)) {
					if got, want := x.Put(names[at], i), s.put(names[at], i); got != want {
						t.Fatalf("Put(%d): %v", names[at], got)
					}
				}
				same(t, x, s, names...)
				for i, at := range r.Perm(len(names))[:len(names)*2/3] {
					if got, want := x.Delete(names[at]), s.del(names[at]); got != want {
						t.Fatalf("Delete(%d): %v", names[at], got)
					}
					if i%7 == 0 {
						same(t, x, s, names...)
					}
				}
				same(t, x, s, names...)
			}
		}
	}
}

// P40.1 and P40.2: drawn calls of two tables under two keys answer what a map says.
func TestDrawn(t *testing.T) {
	r := rand.New(rand.NewSource(2))
	for round := range 400 {
		most := 1 + r.Intn(300)
		span := 1 + r.Intn(600) // how many names there are to choose from
		step := []uint32{1, 2, 256, 65537, 1 << 23, 2654435761}[r.Intn(6)]
		key, other := api.Pair{K0: r.Uint64(), K1: r.Uint64()}, oddKeys[r.Intn(len(oddKeys))]
		x, y, s := table.New(key, most), table.New(other, most), newSlow(most)
		puts := 1 + r.Intn(9)
		for range 600 {
			name, value := uint32(r.Intn(span))*step, r.Intn(5)-1
			if r.Intn(10) < puts {
				want := s.put(name, value)
				if got, too := x.Put(name, value), y.Put(name, value); got != want || too != want {
					t.Fatalf("%d: Put(%d, %d): %v, %v, not %v", round, name, value, got, too, want)
				}
			} else {
				want := s.del(name)
				if got, too := x.Delete(name), y.Delete(name); got != want || too != want {
					t.Fatalf("%d: Delete(%d): %v, %v, not %v", round, name, got, too, want)
				}
			}
			fits(t, x, s.peak)
			fits(t, y, s.peak)
			if r.Intn(20) == 0 {
				same(t, x, s, name, name+step)
				same(t, y, s, name, name+step)
				values := []int{r.Intn(7) - 2, r.Intn(7) - 2}[:r.Intn(3)]
				if got, want := x.Names(values...), s.list(values...); !slices.Equal(got, want) || !slices.Equal(y.Names(values...), want) {
					t.Fatalf("%d: Names(%v): %v, not %v", round, values, got, want)
				}
			}
		}
	}
}

// P40.2

// Names that come and go, one at a time, don't make places more, however many there were.
func TestPlaces(t *testing.T) {
	for _, key := range oddKeys {
		for _, stay := range []int{0, 1, 5, 6, 12, 100, 255} {
			x := table.New(key, 256)
			for i := range stay {
				x.Put(uint32(i), i)
			}
			for name := uint32(1000); name < 6000; name++ {
				if !x.Put(name, 1) || x.Len() != stay+1 {
					t.Fatal(name)
				}
				fits(t, x, stay+1)
				if !x.Delete(name) || x.Len() != stay {
					t.Fatal(name)
				}
				if _, ok := x.Get(name); ok {
					t.Fatal(name)
				}
			}
			fits(t, x, stay+1)
		}
	}
}

// Calls that are turned down, and those that ask alone, make places no more.
func TestPlacesStay(t *testing.T) {
	x := table.New(api.Pair{}, 6)
	for i := range uint32(6) {
		x.Put(i, 0)
	}
	for i := range uint32(2000) {
		x.Put(i+6, 0)
		x.Get(i)
		x.Delete(i + 6)
		x.Put(i%6, int(i))
		x.Names(int(i))
		fits(t, x, 6)
	}
	if x.Len() != 6 {
		t.Error(x.Len())
	}
}

// P1, P2

// The same calls answer the same, however many tables there are; a table doesn't matter to another one.
func TestAny(t *testing.T) {
	answers := func(key api.Pair, most int) string {
		x := table.New(key, most)
		out := ""
		for _, name := range oddNames {
			for _, value := range oddValues {
				before, had := x.Get(name)
				put := x.Put(name, value)
				n, ok := x.Get(name)
				out += fmt.Sprintln(before, had, put, n, ok, x.Len(), x.Names(), x.Names(value, 0))
				if value == int(name%3)-1 {
					out += fmt.Sprintln(x.Delete(name), x.Delete(name), x.Names())
				}
			}
		}
		return out
	}
	for _, most := range []int{math.MinInt, -1, 0, 1, 2, 7, 8, 9, 255, 256, 257, math.MaxInt} {
		want := answers(oddKeys[0], most)
		for _, key := range oddKeys {
			if answers(key, most) != want {
				t.Errorf("New(%v, %d): other answers", key, most)
			}
		}
	}
}
