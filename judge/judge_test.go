package judge_test

import (
	"bytes"
	"math"
	"math/rand"
	"slices"
	"testing"

	"brougham/api"
	"brougham/judge"
)

const (
	syn, ack, rst = api.Syn, api.Ack, api.Rst

	opening, half, up, dead = api.Opening, api.Half, api.Up, api.Dead

	pass, drop, challenge, remove, refuse = judge.Pass, judge.Drop, judge.Challenge, judge.Remove, judge.Refuse

	window = 1 << 20
	round  = 1 << 32
	last   = math.MaxUint32
)

// starts: where a path's numbers may begin: far from the seam, at it, and next to half the way round.
var starts = []uint32{0, 1, 50, 1000, window - 1, window, window + 1, 1<<31 - window - 3, 1<<31 - 1, 1 << 31, 1<<31 + 1, last - window - 1, last - window, last - 8, last - 1, last}

// away: how far a number may be from another one, to either side.
var away = []uint32{0, 1, 2, 3, 5, 100, window - 2, window - 1, window, window + 1, 2 * window, 1<<31 - 2, 1<<31 - 1, 1 << 31}

// about: the numbers that are away from some.
func about(from ...uint32) []uint32 {
	l := []uint32{0, last}
	for _, x := range from {
		for _, d := range away {
			l = append(l, x+d, x-d)
		}
	}
	slices.Sort(l)
	return slices.Compact(l)
}

// ahead: so many steps, forth and round, lead from one number to another one.
func ahead(from, to uint32) int64 {
	d := int64(to) - int64(from)
	if d < 0 {
		d += round
	}
	return d
}

// slowFits: the words of the chapter, by steps round.
func slowFits(n judge.Numbers, s api.Segment, sealed bool) bool {
	near := ahead(n.Wait, s.Seq) < window || ahead(s.Seq, n.Wait) < window
	between := ahead(n.Acked, n.Next) < 1<<31 && ahead(n.Acked, s.Ack) >= 1 && ahead(n.Acked, s.Ack) <= ahead(n.Acked, n.Next)
	behind := ahead(s.Ack, n.Acked) < window
	return sealed && s.Flags == 2 && near && (s.Ack == n.Acked || between || behind)
}

// slow: the verdict, by the words of the chapter, each way through them by itself.
func slow(n judge.Numbers, s api.Segment, sealed bool) judge.Verdict {
	hasSyn, hasAck, hasRst := s.Flags%2 == 1, s.Flags/2%2 == 1, s.Flags/4%2 == 1
	if n.State == 1 {
		if !hasAck || ahead(n.First, s.Ack) != 1 {
			if s.Flags == 2 {
				return 5
			}
			return 2
		}
		if hasRst {
			return 4
		}
		if hasSyn {
			return 1
		}
		return 2
	}
	if n.State == 2 && hasRst || n.State == 3 && hasRst {
		steps := ahead(n.Wait, s.Seq)
		if steps == 0 {
			return 4
		}
		if n.State == 3 && steps < window {
			return 3
		}
		return 2
	}
	if n.State == 2 && hasSyn {
		if s.Flags == 1 && ahead(s.Seq, n.Wait) == 1 {
			return 1
		}
		return 2
	}
	if n.State == 3 && hasSyn {
		return 3
	}
	if (n.State == 2 || n.State == 3) && slowFits(n, s, sealed) {
		return 1
	}
	return 2
}

// is: a segment's verdict.
func is(t *testing.T, n judge.Numbers, s api.Segment, sealed bool, want judge.Verdict) {
	t.Helper()
	if got := judge.Judge(n, s, sealed); got != want {
		t.Fatalf("%+v, Seq %d, Ack %d, Flags %d, sealed %v: %d, not %d", n, s.Seq, s.Ack, s.Flags, sealed, got, want)
	}
}

// both: a segment's verdict, whether it is sealed or not.
func both(t *testing.T, n judge.Numbers, s api.Segment, want judge.Verdict) {
	t.Helper()
	is(t, n, s, false, want)
	is(t, n, s, true, want)
}

// at: a path from numbers on.
func at(state api.State, first, wait uint32) judge.Numbers {
	return judge.Numbers{State: state, First: first, Acked: first + 5, Next: first + 10, Wait: wait}
}

func TestNumbers(t *testing.T) {
	if pass != 1 || drop != 2 || challenge != 3 || remove != 4 || refuse != 5 {
		t.Error(pass, drop, challenge, remove, refuse)
	}
}

func TestExample(t *testing.T) {
	n := judge.Numbers{State: up, Wait: 5}
	for seq, want := range map[uint32]judge.Verdict{5: remove, 6: challenge, 4: drop} {
		both(t, n, api.Segment{Seq: seq, Flags: rst}, want)
	}
}

// P15.1

// Without the one acknowledgement: Refuse, if there is just ACK, else Drop, whatever the flags.
func TestOpeningElse(t *testing.T) {
	for _, first := range starts {
		n := at(opening, first, 0)
		for flags := range 256 {
			want := drop
			if flags == ack {
				want = refuse
			}
			for _, a := range about(first+1, first) {
				if a != first+1 {
					both(t, n, api.Segment{Ack: a, Flags: byte(flags)}, want)
				}
			}
		}
	}
}

// With it: Remove with RST, else Pass with SYN, else Drop; flags that there are none of don't matter.
func TestOpeningAnswered(t *testing.T) {
	for _, first := range starts {
		n := at(opening, first, 0)
		for flags, want := range map[byte]judge.Verdict{
			ack: drop, syn | ack: pass, rst | ack: remove, syn | ack | rst: remove,
			8 | ack: drop, 8 | syn | ack: pass, 248 | rst | ack: remove, 255: remove,
			0: drop, syn: drop, rst: drop, syn | rst: drop, 8: drop, 248: drop,
		} {
			both(t, n, api.Segment{Ack: first + 1, Flags: flags}, want)
		}
	}
}

// It is First and one alone: neither the segment's number nor the path's others matter.
func TestOpeningOthers(t *testing.T) {
	for _, x := range about(77) {
		n := judge.Numbers{State: opening, First: 77, Acked: x, Next: x + 1, Wait: x + 3}
		both(t, n, api.Segment{Seq: x, Ack: 78, Flags: syn | ack}, pass)
		both(t, n, api.Segment{Seq: x + 3, Ack: 78, Flags: rst | ack}, remove)
		both(t, n, api.Segment{Seq: x + 3, Ack: 79, Flags: rst | ack}, drop)
		both(t, n, api.Segment{Seq: x + 3, Ack: 77, Flags: ack}, refuse)
		both(t, n, api.Segment{Seq: x + 3, Ack: 78, Flags: rst}, drop)
	}
}

// P15.2

// RST: of the number that is waited for alone, with all other flags, too.
func TestHalfReset(t *testing.T) {
	for _, wait := range starts {
		n := at(half, 900, wait)
		for _, seq := range about(wait) {
			want := drop
			if seq == wait {
				want = remove
			}
			for flags := range 256 {
				if flags&rst != 0 {
					both(t, n, api.Segment{Seq: seq, Ack: n.Acked, Flags: byte(flags)}, want)
				}
			}
		}
	}
}

// SYN: once more just the one that was answered.
func TestHalfHello(t *testing.T) {
	for _, wait := range starts {
		n := at(half, 900, wait)
		for _, seq := range about(wait, wait-1) {
			for flags := range 256 {
				want := drop
				if seq == wait-1 && flags == syn {
					want = pass
				}
				if flags&syn != 0 && flags&rst == 0 {
					both(t, n, api.Segment{Seq: seq, Ack: n.Acked, Flags: byte(flags)}, want)
				}
			}
		}
	}
}

// fit asks of each edge of what fits, of a path that is answered or there.
func fit(t *testing.T, state api.State) {
	t.Helper()
	for _, first := range starts {
		for _, wait := range starts {
			n := at(state, first, wait)
			for _, x := range []struct {
				seq, ack uint32
				want     judge.Verdict
			}{
				{wait, n.Acked, pass}, {wait + 1, n.Acked, pass}, {wait - 1, n.Acked, pass},
				{wait + window - 1, n.Acked, pass}, {wait - window + 1, n.Acked, pass},
				{wait + window, n.Acked, drop}, {wait - window, n.Acked, drop}, {wait + 1<<31, n.Acked, drop},
				{wait, n.Acked + 1, pass}, {wait, n.Next - 1, pass}, {wait, n.Next, pass}, {wait, n.Next + 1, drop}, {wait, n.Next + window, drop},
				{wait, n.Acked - 1, pass}, {wait, n.Acked - window + 1, pass}, {wait, n.Acked - window, drop}, {wait, n.Acked + 1<<31, drop},
				{wait + window - 1, n.Next, pass}, {wait - window + 1, n.Acked - window + 1, pass}, {wait + window, n.Next + 1, drop},
			} {
				is(t, n, api.Segment{Seq: x.seq, Ack: x.ack, Flags: ack}, true, x.want)
				is(t, n, api.Segment{Seq: x.seq, Ack: x.ack, Flags: ack}, false, drop)
			}
			for flags := range 256 {
				want := drop
				if flags == ack {
					want = pass
				}
				if flags&syn == 0 && flags&rst == 0 {
					is(t, n, api.Segment{Seq: wait, Ack: n.Acked, Flags: byte(flags)}, true, want)
					is(t, n, api.Segment{Seq: wait, Ack: n.Acked, Flags: byte(flags)}, false, drop)
				}
			}
		}
	}
}

func TestHalfFits(t *testing.T) { fit(t, half) }

// P15.3

// RST: Remove of the one number, Challenge of the Window numbers from it on, else Drop, with all other flags, too.
func TestUpReset(t *testing.T) {
	for _, wait := range starts {
		n := at(up, 900, wait)
		for seq, want := range map[uint32]judge.Verdict{
			wait: remove, wait + 1: challenge, wait + 2: challenge, wait + window - 2: challenge, wait + window - 1: challenge,
			wait + window: drop, wait + window + 1: drop, wait + 1<<31: drop, wait - 1: drop, wait - window + 1: drop, wait - window: drop,
		} {
			for flags := range 256 {
				if flags&rst != 0 {
					both(t, n, api.Segment{Seq: seq, Ack: n.Acked, Flags: byte(flags)}, want)
				}
			}
		}
	}
}

// SYN: Challenge, whatever its number and its other flags but RST.
func TestUpHello(t *testing.T) {
	for _, wait := range starts {
		n := at(up, 900, wait)
		for _, seq := range about(wait) {
			for flags := range 256 {
				if flags&syn != 0 && flags&rst == 0 {
					both(t, n, api.Segment{Seq: seq, Ack: seq, Flags: byte(flags)}, challenge)
				}
			}
		}
	}
}

func TestUpFits(t *testing.T) { fit(t, up) }

// What lies between Acked and Next, where nothing, one, much or half the way round does.
func TestBetween(t *testing.T) {
	for _, state := range []api.State{half, up} {
		for _, acked := range starts {
			for _, x := range []struct {
				next, ack uint32
				want      judge.Verdict
			}{
				{0, 0, pass}, {0, 1, drop}, {1, 1, pass}, {1, 2, drop}, {window, window, pass}, {3 * window, 2 * window, pass}, {3 * window, 3*window + 1, drop},
				{1<<31 - 1, 1<<31 - 1, pass}, {1<<31 - 1, 1 << 31, drop}, {1<<31 - 1, 1, pass},
				{1 << 31, 1, drop}, {1 << 31, 1 << 31, drop}, {1 << 31, 0, pass}, {last, 1, drop}, {last, last, pass}, {last, last - window + 2, pass}, {last, last - window + 1, drop},
			} {
				n := judge.Numbers{State: state, Acked: acked, Next: acked + x.next, Wait: 7}
				is(t, n, api.Segment{Seq: 7, Ack: acked + x.ack, Flags: ack}, true, x.want)
			}
		}
	}
}

// First doesn't matter to a path that is answered or there.
func TestFirst(t *testing.T) {
	for _, state := range []api.State{half, up} {
		for _, first := range about(7, 100) {
			n := judge.Numbers{State: state, First: first, Acked: 100, Next: 110, Wait: 7}
			is(t, n, api.Segment{Seq: 7, Ack: 105, Flags: ack}, true, pass)
			is(t, n, api.Segment{Seq: 7, Ack: 111, Flags: ack}, true, drop)
			both(t, n, api.Segment{Seq: 7, Ack: first + 1, Flags: rst | ack}, remove)
		}
	}
}

// P15.4

func TestOtherStates(t *testing.T) {
	for _, state := range []api.State{dead, 0, -1, -2, -3, 5, 6, 7, 1<<32 + 1, 1<<32 + 2, 1<<32 + 3, 1<<8 + 1, math.MinInt, math.MinInt + 3, math.MaxInt} {
		n := at(state, 100, 50)
		for flags := range 256 {
			for _, seq := range []uint32{48, 49, 50, 51} {
				for _, a := range []uint32{0, 99, 100, 101, 104, 105, 106, 110, 111} {
					both(t, n, api.Segment{Seq: seq, Ack: a, Flags: byte(flags)}, drop)
				}
			}
		}
	}
}

// All states, flags and edges, by the chapter's words.
func TestAll(t *testing.T) {
	for state := api.State(-1); state < 7; state++ {
		for _, first := range []uint32{1000, last - 7, 1<<31 - 6} {
			for _, wait := range []uint32{50, last, 1<<31 + 2} {
				n := at(state, first, wait)
				for _, seq := range about(wait) {
					for _, a := range about(n.First, n.Acked, n.Next) {
						for flags := range byte(9) {
							s := api.Segment{Seq: seq, Ack: a, Flags: flags}
							is(t, n, s, false, slow(n, s, false))
							is(t, n, s, true, slow(n, s, true))
						}
					}
				}
			}
		}
	}
}

// drawn: a path and a segment whose numbers are near one another more often than not.
func drawn(r *rand.Rand) (judge.Numbers, api.Segment) {
	far := func(from uint32) uint32 {
		if r.Intn(9) == 0 {
			return r.Uint32()
		}
		d := away[r.Intn(len(away))] + uint32(r.Intn(5)) - 2
		if r.Intn(2) == 0 {
			return from - d
		}
		return from + d
	}
	n := judge.Numbers{State: api.State(r.Intn(6)), First: far(0), Wait: far(0)}
	n.Acked = far(n.First)
	n.Next = far(n.Acked)
	s := api.Segment{Src: uint16(r.Uint32()), Dst: uint16(r.Uint32()), Seq: far(n.Wait), Flags: byte(r.Intn(8))}
	s.Ack = far([]uint32{n.First, n.Acked, n.Next}[r.Intn(3)])
	if r.Intn(5) == 0 {
		s.Flags = byte(r.Intn(256))
	}
	return n, s
}

func TestDrawn(t *testing.T) {
	r := rand.New(rand.NewSource(15))
	seen := map[judge.Verdict]int{}
	for range 400000 {
		n, s := drawn(r)
		sealed := r.Intn(2) == 0
		v := slow(n, s, sealed)
		is(t, n, s, sealed, v)
		seen[v]++
	}
	for v := pass; v <= refuse; v++ {
		if seen[v] < 500 {
			t.Errorf("%d: just %d times", v, seen[v])
		}
	}
}

// P15.5

// Of a path that is there what isn't sealed is never looked at, and takes it away with the one number alone.
func TestUnsealed(t *testing.T) {
	r := rand.New(rand.NewSource(155))
	for range 200000 {
		n, s := drawn(r)
		n.State = up
		v := judge.Judge(n, s, false)
		if v == pass || v == refuse || v == remove && (s.Seq != n.Wait || s.Flags&rst == 0) {
			t.Fatalf("%+v, %+v: %d", n, s, v)
		}
	}
	for _, wait := range starts {
		n, gone := at(up, 100, wait), 0
		for _, seq := range about(wait) {
			if judge.Judge(n, api.Segment{Seq: seq, Flags: rst}, false) == remove {
				gone++
			}
		}
		if gone != 1 {
			t.Error(wait, gone)
		}
	}
}

// P1, P2

// Neither ports, options nor data matter, be there as many as there may; whether it is sealed is what was told, not what the options say.
func TestRest(t *testing.T) {
	r := rand.New(rand.NewSource(16))
	for range 20000 {
		n, s := drawn(r)
		sealed := r.Intn(2) == 0
		v := judge.Judge(n, s, sealed)
		for _, l := range [][]api.Option{nil, {}, {{}}, {{Kind: api.KindData, Body: make([]byte, 27)}}, make([]api.Option, 300)} {
			s.Src, s.Dst, s.Opts = uint16(r.Uint32()), uint16(r.Uint32()), l
			s.Data = make([]byte, r.Intn(3)*1000)
			is(t, n, s, sealed, v)
		}
	}
}

// What is handed in isn't changed, and the same is answered once more, whatever was asked between.
func TestOnceMore(t *testing.T) {
	r := rand.New(rand.NewSource(17))
	n := at(up, 100, 50)
	body, data := []byte{1, 2, 3}, []byte("abc")
	s := api.Segment{Seq: 50, Ack: 105, Flags: ack, Opts: []api.Option{{Kind: 3, Body: body}}, Data: data}
	for range 2000 {
		is(t, n, s, true, pass)
		is(t, n, s, false, drop)
		other, segment := drawn(r)
		v := judge.Judge(other, segment, true)
		judge.Judge(n, api.Segment{Seq: 50, Flags: rst}, true)
		is(t, other, segment, true, v)
	}
	if !bytes.Equal(body, []byte{1, 2, 3}) || string(data) != "abc" || len(s.Opts) != 1 || s.Opts[0].Kind != 3 {
		t.Error(s)
	}
}
