package cookie_test

import (
	"encoding/binary"
	"fmt"
	"math"
	"math/rand"
	"slices"
	"testing"

	"brougham/api"
	"brougham/cookie"
	"brougham/sip"
)

var (
	shortKey = api.Pair{K0: 1, K1: 2}
	bytesKey = api.Pair{K0: 0x0706050403020100, K1: 0x0f0e0d0c0b0a0908} // of the bytes 0 to 15
	fullKey  = api.Pair{K0: math.MaxUint64, K1: math.MaxUint64}
)

const (
	round = cookie.Epoch << 32 // ticks till epochs come again
	five  = cookie.Epoch * 32  // ticks till their lowest five bits do
)

var ask = cookie.Ask{Path: 1, Local: 80, Remote: 5, First: 7}

// sizes: those that a cookie can say.
var sizes = []int{1, 16, 64, 128, 256, 512, 768, 1024}

// oddTicks: those next to where epochs begin, go round, and end.
var oddTicks = []int{
	math.MinInt, -round, -cookie.Epoch, -1, 0, 1, 62, 63, 64, 65, 100, 127, 128, 191, 192,
	five - 1, five, five + 64, 33*64 + 5, round - 65, round - 64, round - 1, round, round + 1, round + 63, round + 64, round + 127, round + 128,
	7*round - 1, 7 * round, 7*round + 64, math.MaxInt - 64, math.MaxInt,
}

// epochOf: a tick's epoch.
func epochOf(tick int) uint64 {
	if tick < 0 {
		return 0
	}
	return uint64(tick) / 64 % (1 << 32)
}

// sumOf: an ask's sum, written another way.
func sumOf(k api.Pair, a cookie.Ask, epoch uint64, size int) uint32 {
	big := binary.BigEndian
	b := big.AppendUint64(nil, uint64(a.Path))[4:]
	b = big.AppendUint16(big.AppendUint16(b, a.Local), a.Remote)
	b = big.AppendUint32(big.AppendUint32(b, a.First), uint32(epoch))
	return uint32(sip.Sum(k, big.AppendUint32(b, uint32(size))) & 0xffffff)
}

// made: the number that says these.
func made(k api.Pair, a cookie.Ask, epoch uint64, size int) uint32 {
	return uint32(epoch%32)*(1<<27) + uint32(size)*(1<<24) + sumOf(k, a, epoch, size)
}

// numberOf: the number of the greatest size that isn't above one.
func numberOf(mss int) int {
	n := 0
	for i, size := range sizes {
		if size <= mss {
			n = i
		}
	}
	return n
}

// checked: what Check is to answer, as the chapter puts it.
func checked(k api.Pair, a cookie.Ask, tick int, number uint32) (int, bool) {
	l := []uint64{epochOf(tick)}
	if tick >= 64 {
		l = append(l, epochOf(tick-64))
	}
	size := int(number / (1 << 24) % 8)
	for _, e := range l {
		if uint32(e%32) == number/(1<<27) && sumOf(k, a, e, size) == number%(1<<24) {
			return sizes[size], true
		}
	}
	return 0, false
}

// check: what Check answers, with 0 beside false.
func check(t *testing.T, k api.Pair, a cookie.Ask, tick int, number uint32) (int, bool) {
	t.Helper()
	size, ok := cookie.Check(k, a, tick, number)
	if !ok && size != 0 {
		t.Errorf("Check(%x, %v, %d, %x): %d beside false", k, a, tick, number, size)
	}
	return size, ok
}

func drawnKey(r *rand.Rand) api.Pair { return api.Pair{K0: r.Uint64(), K1: r.Uint64()} }

func drawnAsk(r *rand.Rand) cookie.Ask {
	return cookie.Ask{Path: int(r.Uint64()), Local: uint16(r.Uint32()), Remote: uint16(r.Uint32()), First: r.Uint32()}
}

// P30.1

func TestSize(t *testing.T) {
	for mss := -2000; mss < 3000; mss++ {
		if got := cookie.Size(mss); got != sizes[numberOf(mss)] {
			t.Errorf("Size(%d): %d", mss, got)
		}
	}
	for _, x := range []struct{ mss, want int }{
		{100, 64}, {0, 1}, {-1, 1}, {math.MinInt, 1}, {1, 1}, {2, 1}, {15, 1}, {16, 16}, {63, 16}, {64, 64}, {127, 64}, {128, 128}, {255, 128}, {256, 256},
		{511, 256}, {512, 512}, {767, 512}, {768, 768}, {1023, 768}, {1024, 1024}, {1025, 1024}, {1 << 32, 1024}, {1<<32 + 1, 1024}, {math.MaxInt, 1024},
	} {
		if got := cookie.Size(x.mss); got != x.want {
			t.Errorf("Size(%d): %d, not %d", x.mss, got, x.want)
		}
	}
	if cookie.Epoch != 64 {
		t.Error(cookie.Epoch)
	}
}

// As OpenSSL makes their sums.
func TestMakeKnown(t *testing.T) {
	for _, x := range []struct {
		k         api.Pair
		a         cookie.Ask
		tick, mss int
		want      uint32
	}{
		{api.Pair{}, cookie.Ask{}, 0, 0, 0x00ae7677},
		{bytesKey, cookie.Ask{}, 63, 1, 0x0032bcd2},
		{api.Pair{}, cookie.Ask{}, 100, 600, 0x0d93b9b8},
		{bytesKey, cookie.Ask{}, 2048, 1024, 0x07a4cbc2},
		{api.Pair{}, cookie.Ask{}, 1984, 128, 0xfbafee98},
		{bytesKey, cookie.Ask{}, 274877906944, 768, 0x0642d5cb},
		{api.Pair{}, cookie.Ask{}, math.MinInt64, math.MinInt64, 0x00ae7677},
		{shortKey, ask, 0, 0, 0x004117a8},
		{bytesKey, ask, -1, -1, 0x00f34844},
		{fullKey, ask, 63, 1, 0x000c25ec},
		{api.Pair{}, ask, 64, 16, 0x099130a2},
		{shortKey, ask, 100, 600, 0x0d8a9fdf},
		{bytesKey, ask, 127, 15, 0x0822a2b1},
		{fullKey, ask, 2048, 1024, 0x07ae4496},
		{api.Pair{}, ask, 2111, 64, 0x024d6fd2},
		{shortKey, ask, 1984, 128, 0xfb88ddd2},
		{bytesKey, ask, 274877906943, 256, 0xfcf30095},
		{fullKey, ask, 274877906944, 768, 0x0639d7eb},
		{api.Pair{}, ask, math.MaxInt64, math.MaxInt64, 0xffe2b3af},
		{shortKey, ask, math.MinInt64, math.MinInt64, 0x004117a8},
		{bytesKey, cookie.Ask{Path: 3, Local: 65535, Remote: 1, First: math.MaxUint32}, 0, 0, 0x003c3ec3},
		{api.Pair{}, cookie.Ask{Path: 3, Local: 65535, Remote: 1, First: math.MaxUint32}, 63, 1, 0x007bdd53},
		{bytesKey, cookie.Ask{Path: 3, Local: 65535, Remote: 1, First: math.MaxUint32}, 100, 600, 0x0dcde68c},
		{api.Pair{}, cookie.Ask{Path: -1, Local: 1, Remote: 65535, First: 0x01020304}, -1, -1, 0x00355d0e},
		{bytesKey, cookie.Ask{Path: -1, Local: 1, Remote: 65535, First: 0x01020304}, 64, 16, 0x0906ab56},
		{bytesKey, cookie.Ask{Path: -1, Local: 1, Remote: 65535, First: 0x01020304}, 2111, 64, 0x021263bc},
		{api.Pair{}, cookie.Ask{Path: 1<<32 + 1, Local: 80, Remote: 5, First: 7}, 0, 0, 0x0067ff1f},
		{bytesKey, cookie.Ask{Path: 1<<32 + 1, Local: 80, Remote: 5, First: 7}, 63, 1, 0x00f34844},
		{bytesKey, cookie.Ask{Path: 0x0102030405060708, Local: 0x1112, Remote: 0x2122, First: 0x31323334}, -1, -1, 0x003fa016},
		{api.Pair{}, cookie.Ask{Path: 0x0102030405060708, Local: 0x1112, Remote: 0x2122, First: 0x31323334}, 64, 16, 0x09efbf39},
		{bytesKey, cookie.Ask{Path: 0x0102030405060708, Local: 0x1112, Remote: 0x2122, First: 0x31323334}, 127, 15, 0x08490364},
		{api.Pair{}, cookie.Ask{Path: 0x0102030405060708, Local: 0x1112, Remote: 0x2122, First: 0x31323334}, 2111, 64, 0x02add5d0},
		{bytesKey, cookie.Ask{Path: 0x0102030405060708, Local: 0x1112, Remote: 0x2122, First: 0x31323334}, 274877906943, 256, 0xfc22bd89},
		{api.Pair{}, cookie.Ask{Path: 0x0102030405060708, Local: 0x1112, Remote: 0x2122, First: 0x31323334}, math.MaxInt64, math.MaxInt64, 0xffff13a1},
	} {
		if got := cookie.Make(x.k, x.a, x.tick, x.mss); got != x.want {
			t.Errorf("Make(%x, %v, %d, %d): %08x, not %08x", x.k, x.a, x.tick, x.mss, got, x.want)
		}
	}
}

func TestMakeDrawn(t *testing.T) {
	r := rand.New(rand.NewSource(1))
	for i := range 20000 {
		k, a, mss := drawnKey(r), drawnAsk(r), r.Intn(1200)-50
		tick := r.Int() >> (i % 63)
		if i%2 == 0 {
			tick = oddTicks[r.Intn(len(oddTicks))]
		}
		if got, want := cookie.Make(k, a, tick, mss), made(k, a, epochOf(tick), numberOf(mss)); got != want {
			t.Fatalf("Make(%x, %v, %d, %d): %08x, not %08x", k, a, tick, mss, got, want)
		}
	}
}

// The three parts of a number stand where they should.
func TestMakeParts(t *testing.T) {
	for tick := -100; tick < 3*five; tick += 7 {
		for i, size := range sizes {
			n := cookie.Make(bytesKey, ask, tick, size)
			if uint64(n>>27) != epochOf(tick)%32 || int(n>>24&7) != i || n&0xffffff != sumOf(bytesKey, ask, epochOf(tick), i) {
				t.Errorf("Make at %d, of %d: %08x", tick, size, n)
			}
		}
	}
}

// Within an epoch it is the same, from epoch to epoch another; one whose lowest five bits are the same has another sum; after all of them they come again.
func TestMakeEpochs(t *testing.T) {
	for _, tick := range oddTicks {
		n := cookie.Make(bytesKey, ask, tick, 512)
		for other := range 300 {
			same := epochOf(other) == epochOf(tick)
			if (cookie.Make(bytesKey, ask, other, 512) == n) != same {
				t.Errorf("ticks %d and %d", tick, other)
			}
		}
		if tick < 0 || tick > 8*round {
			continue
		}
		if m := cookie.Make(bytesKey, ask, tick+five, 512); m>>24 != n>>24 || m == n {
			t.Errorf("tick %d, and as many later as bring the five bits back: %08x, %08x", tick, n, m)
		}
		if m := cookie.Make(bytesKey, ask, tick+round, 512); m != n {
			t.Errorf("tick %d, and as many later as bring the epoch back: %08x, %08x", tick, n, m)
		}
	}
	for tick := -300; tick < 64; tick++ {
		if cookie.Make(shortKey, ask, tick, 64) != cookie.Make(shortKey, ask, 0, 64) {
			t.Errorf("tick %d isn't of the epoch 0", tick)
		}
	}
}

// Sizes between those that can be said are as the one below them; with each of these there is another sum.
func TestMakeSizes(t *testing.T) {
	sums := map[uint32]int{}
	for mss := -10; mss < 1100; mss++ {
		n := cookie.Make(bytesKey, ask, 100, mss)
		if n != cookie.Make(bytesKey, ask, 100, cookie.Size(mss)) || int(n>>24&7) != numberOf(mss) {
			t.Errorf("of %d: %08x", mss, n)
		}
		sums[n&0xffffff]++
	}
	if len(sums) != len(sizes) {
		t.Errorf("%d sums", len(sums))
	}
}

// P30.2

// Each number that was made in an epoch near, with each size, at each of these ticks.
func TestCheckEach(t *testing.T) {
	for _, tick := range oddTicks {
		epochs := []uint64{0, 1, 2, 31, 32, 33, 34, 63, 64, 65, math.MaxUint32 - 1, math.MaxUint32}
		for back := range uint64(70) {
			epochs = append(epochs, (epochOf(tick)-back+2)%(1<<32))
		}
		found := 0
		for _, e := range slices.Compact(slices.Sorted(slices.Values(epochs))) {
			for i := range sizes {
				n := made(bytesKey, ask, e, i)
				size, ok := check(t, bytesKey, ask, tick, n)
				wantSize, want := checked(bytesKey, ask, tick, n)
				if ok != want || size != wantSize {
					t.Errorf("at %d, of the epoch %d, with %d: %d, %v, not %d, %v", tick, e, sizes[i], size, ok, wantSize, want)
				}
				if ok {
					found++
				}
			}
		}
		if want := 8 * (1 + min(max(tick, 0)/64, 1)); found != want {
			t.Errorf("at %d: %d are right, not %d", tick, found, want)
		}
	}
}

// No number with a bit turned is right, and none with another size's number, or another epoch's bits.
func TestCheckTurned(t *testing.T) {
	r := rand.New(rand.NewSource(2))
	for range 500 {
		k, a, tick, mss := drawnKey(r), drawnAsk(r), r.Intn(5000)-100, r.Intn(1100)
		n := cookie.Make(k, a, tick, mss)
		if size, ok := check(t, k, a, tick, n); !ok || size != cookie.Size(mss) {
			t.Fatalf("Check(%x, %v, %d, %x): %d, %v", k, a, tick, n, size, ok)
		}
		for bit := range 32 {
			if size, ok := check(t, k, a, tick, n^1<<bit); ok {
				t.Fatalf("Check(%x, %v, %d, %x), bit %d: %d", k, a, tick, n, bit, size)
			}
		}
		for head := range uint32(256) {
			m := head<<24 | n&0xffffff
			if size, ok := check(t, k, a, tick, m); ok != (m == n) {
				t.Fatalf("Check(%x, %v, %d, %x): %d, %v", k, a, tick, m, size, ok)
			}
		}
	}
}

// Another ask, or another key, has other numbers; of the path just the lowest 32 bits count.
func TestCheckAsks(t *testing.T) {
	const tick, mss = 100, 600
	n := cookie.Make(bytesKey, ask, tick, mss)
	wrong := func(k api.Pair, a cookie.Ask) {
		if size, ok := check(t, k, a, tick, n); ok {
			t.Errorf("%x, %v: %d", k, a, size)
		}
	}
	for bit := range 64 {
		wrong(api.Pair{K0: bytesKey.K0 ^ 1<<bit, K1: bytesKey.K1}, ask)
		wrong(api.Pair{K0: bytesKey.K0, K1: bytesKey.K1 ^ 1<<bit}, ask)
		a := ask
		a.Path ^= 1 << bit
		if bit < 32 {
			wrong(bytesKey, a)
		} else if size, ok := check(t, bytesKey, a, tick, n); !ok || size != 512 {
			t.Errorf("path %x: %d, %v", a.Path, size, ok)
		}
		a = ask
		a.First ^= 1 << (bit % 32)
		wrong(bytesKey, a)
		a = ask
		a.Local ^= 1 << (bit % 16)
		wrong(bytesKey, a)
		a = ask
		a.Remote ^= 1 << (bit % 16)
		wrong(bytesKey, a)
	}
	wrong(bytesKey, cookie.Ask{Path: 1, Local: 5, Remote: 80, First: 7})
	wrong(bytesKey, cookie.Ask{})
}

// Numbers that nobody made: as the slow look says, of whatever ones.
func TestCheckDrawn(t *testing.T) {
	r := rand.New(rand.NewSource(3))
	for range 50000 {
		tick, n := oddTicks[r.Intn(len(oddTicks))], r.Uint32()
		size, ok := check(t, bytesKey, ask, tick, n)
		if wantSize, want := checked(bytesKey, ask, tick, n); ok != want || size != wantSize {
			t.Fatalf("Check at %d of %x: %d, %v", tick, n, size, ok)
		}
	}
	for _, n := range []uint32{0, 1, 1 << 24, 1 << 27, 0x07ffffff, 0xf8000000, math.MaxUint32} {
		for _, tick := range oddTicks {
			if size, ok := check(t, bytesKey, ask, tick, n); ok {
				t.Errorf("Check at %d of %x: %d", tick, n, size)
			}
		}
	}
}

// P30.3

// At each tick: as it was made, from its epoch on, till the end of the next one.
func TestChecked(t *testing.T) {
	for _, from := range []int{0, five - 200, round - 200, 5*round - 200} {
		for at := from; at < from+400; at += 9 {
			for i, size := range sizes {
				if i != at%8 {
					continue
				}
				n := cookie.Make(shortKey, ask, at, size)
				for tick := max(from-100, 0); tick < from+700; tick++ {
					want := tick/64 == at/64 || tick/64 == at/64+1
					if got, ok := check(t, shortKey, ask, tick, n); ok != want || ok && got != size {
						t.Fatalf("made at %d, checked at %d: %d, %v", at, tick, got, ok)
					}
				}
			}
		}
	}
}

// Below the first tick it is as at the first one, which has no epoch ahead.
func TestCheckedBelow(t *testing.T) {
	for _, at := range []int{math.MinInt, -round, -65, -64, -1, 0, 63} {
		n := cookie.Make(bytesKey, ask, at, 128)
		for _, tick := range []int{math.MinInt, -round, -65, -64, -1, 0, 63, 64, 127, 128, 192} {
			if size, ok := check(t, bytesKey, ask, tick, n); ok != (tick < 128) || ok && size != 128 {
				t.Errorf("made at %d, checked at %d: %d, %v", at, tick, size, ok)
			}
		}
	}
	n := made(bytesKey, ask, math.MaxUint32, 3) // what would be ahead of it, if epochs went round there
	for _, tick := range []int{math.MinInt, -64, -1, 0, 63} {
		if size, ok := check(t, bytesKey, ask, tick, n); ok {
			t.Errorf("at %d: %d", tick, size)
		}
	}
}

// P1, P2

func TestAny(t *testing.T) {
	r := rand.New(rand.NewSource(4))
	asks := []cookie.Ask{{}, ask, {Path: math.MinInt, Local: math.MaxUint16, Remote: math.MaxUint16, First: math.MaxUint32}, {Path: math.MaxInt}, {Path: -1}}
	answers := func() string {
		all := ""
		for _, k := range []api.Pair{{}, bytesKey, fullKey} {
			for _, a := range asks {
				for _, tick := range oddTicks {
					for _, mss := range []int{math.MinInt, -1, 0, 100, math.MaxInt} {
						n := cookie.Make(k, a, tick, mss)
						size, ok := cookie.Check(k, a, tick, n)
						if !ok || size != cookie.Size(mss) {
							t.Fatalf("Check(%x, %v, %d, %x): %d, %v", k, a, tick, n, size, ok)
						}
						all += fmt.Sprint(n, size, ";")
					}
				}
			}
		}
		return all
	}
	first := answers()
	for range 100 {
		cookie.Check(drawnKey(r), drawnAsk(r), r.Int(), cookie.Make(drawnKey(r), drawnAsk(r), r.Int(), r.Int()))
	}
	if answers() != first {
		t.Error("another answer to the same call")
	}
}

// The chapter's examples.
func TestExamples(t *testing.T) {
	if cookie.Size(100) != 64 || cookie.Size(0) != 1 {
		t.Error(cookie.Size(100), cookie.Size(0))
	}
}
