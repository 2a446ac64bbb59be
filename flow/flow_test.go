package flow_test

import (
	"bytes"
	"fmt"
	"math"
	"math/rand"
	"reflect"
	"slices"
	"testing"

	"brougham/api"
	"brougham/bucket"
	"brougham/cwnd"
	"brougham/flow"
	"brougham/judge"
	"brougham/opt"
	"brougham/quar"
	"brougham/rto"
	"brougham/sched"
)

const (
	syn, ack, rst = api.Syn, api.Ack, api.Rst

	opening, half, up, dead = api.Opening, api.Half, api.Up, api.Dead

	round    = 1 << 32
	last     = math.MaxUint32
	maxTicks = 4096
)

// odd: numbers at the bounds, next to them, and such as are others when they are cut.
var odd = []int{
	math.MinInt, math.MinInt + 1, -1 << 32, -1 << 31, -257, -256, -255, -2, -1, 0, 1, 2, 3, 4, 5, 8, 127, 128, 255, 256, 257, 511,
	1023, 1024, 1025, 4095, 4096, 4097, 16383, 16384, 16385, 65535, 65536, 1<<31 - 1, 1 << 31, 1 << 32, 1<<32 + 5, 1 << 62, math.MaxInt - 1, math.MaxInt,
}

// numbers: of a path: at the seam, at half the way round, and away from both.
var numbers = []uint32{0, 1, 2, 3, 100, 1<<31 - 2, 1<<31 - 1, 1 << 31, 1<<31 + 1, 1<<31 + 2, 1 << 20, last - 100, last - 2, last - 1, last}

// states: each one there is, then such as are none.
var states = []api.State{opening, half, up, dead, 0, -1, 5, 1<<32 + 1, 1<<32 + 3, math.MinInt, math.MaxInt}

// config is one of which each number that a path is made of is another one.
var config = api.Config{
	Ports: 1, Half: 2, Conns: 3, Flows: 4, Buffer: 500, Chunks: 6, Addrs: 7, Paths: 3,
	Mss: 10, Silence: 900, Keep: 100, Burst: 3, Rate: 1, Score: 4, Policy: api.Turns,
}

var ends = flow.Ends{Path: 2, Local: 5, Remote: 80}

// within: the nearer bound of what isn't from low to high.
func within(low, high, n int) int {
	if n < low {
		return low
	}
	if n > high {
		return high
	}
	return n
}

// steps: so many lead from a number on to another one, round the seam.
func steps(from, to uint32) int64 { return (int64(to) - int64(from) + round) % round }

// ahead: of two numbers the one that layer 4's words say is ahead; the second one, where they are half the way round from each other.
func ahead(a, b uint32) uint32 {
	if steps(b, a) >= round/2 {
		return b
	}
	return a
}

// between: does a number stand behind from, up to to, which is no less than from?
func between(x, from, to uint32) bool {
	many := steps(from, to)
	return many < round/2 && steps(from, x) >= 1 && steps(from, x) <= many
}

// state is all that can be told of a path.
type state struct {
	flow       flow.Flow
	win        cwnd.Window
	trust      quar.Score
	challenges bucket.Bucket
}

func seen(f *flow.Flow) state { return state{*f, *f.Win, *f.Trust, *f.Challenges} }

// say: what a path is, in words.
func say(f *flow.Flow) string {
	return fmt.Sprintf("%+v, Win %+v, Trust %+v, Challenges %+v", *f, *f.Win, *f.Trust, *f.Challenges)
}

// busy: a path of which no field is as it was at first.
func busy() *flow.Flow {
	f := flow.New(config, 3, ends, 100)
	f.Numbers = judge.Numbers{State: dead, First: 100, Acked: 120, Next: 150, Wait: 900}
	f.Sample(20)
	f.Back()
	f.Backup, f.First, f.Heard = true, true, true
	f.Nonce, f.Other = 77, 88
	f.Idle, f.Quiet, f.Age, f.Tries = 11, 12, 13, 14
	f.Win.Sent(17)
	f.Win.Acked(3)
	f.Trust.Add(9)
	f.Challenges.Take()
	return f
}

// turns: does a call make of a path just what is said, and is nothing else turned?
func turns(t *testing.T, f *flow.Flow, told string, call, want func(f *flow.Flow)) {
	t.Helper()
	was := seen(f)
	expect := was
	want(&expect.flow)
	call(f)
	if got := seen(f); got != expect {
		t.Fatalf("%s\nof %+v:\n%s\nnot %+v", told, was, say(f), expect)
	}
}

// keeps: does a call turn nothing?
func keeps(t *testing.T, f *flow.Flow, told string, call func(f *flow.Flow)) {
	t.Helper()
	turns(t, f, told, call, func(*flow.Flow) {})
}

// same: is a segment that one?
func same(a, b api.Segment) bool {
	return a.Src == b.Src && a.Dst == b.Dst && a.Seq == b.Seq && a.Ack == b.Ack && a.Flags == b.Flags && bytes.Equal(a.Data, b.Data) &&
		slices.EqualFunc(a.Opts, b.Opts, func(o, p api.Option) bool { return o.Kind == p.Kind && bytes.Equal(o.Body, p.Body) })
}

// segment: is that what a call answers, turning nothing of the path?
func segment(t *testing.T, f *flow.Flow, told string, call func() api.Segment, want api.Segment) {
	t.Helper()
	keeps(t, f, told, func(*flow.Flow) {
		if got := call(); !same(got, want) {
			t.Fatalf("%s: %+v, not %+v", told, got, want)
		}
	})
}

func TestExample(t *testing.T) {
	f := flow.New(config, 0, ends, 7)
	if f.Next != 8 {
		t.Error(f.Next)
	}
	if f.Answered(9); f.Wait != 10 || f.Acked != 8 {
		t.Error(f.Wait, f.Acked)
	}
}

// P21.1

// fresh: is a path as a new one is to be?
func fresh(t *testing.T, c api.Config, id int, e flow.Ends, first uint32) {
	t.Helper()
	f := flow.New(c, id, e, first)
	want := flow.Flow{
		Numbers: judge.Numbers{State: opening, First: first, Acked: first, Next: uint32((int64(first) + 1) % round)},
		ID:      id, Path: e.Path, Local: e.Local, Remote: e.Remote,
		Win: f.Win, Trust: f.Trust, Challenges: f.Challenges,
	}
	if *f != want {
		t.Fatalf("New(%+v, %d, %+v, %d): %+v", c, id, e, first, *f)
	}
	if *f.Win != *cwnd.New(c.Mss) || *f.Trust != *quar.New(c.Score) || *f.Challenges != *bucket.New(c.Burst, c.Rate) {
		t.Fatalf("New(%+v): %s", c, say(f))
	}
	if f.Ends() != e {
		t.Fatalf("Ends: %+v, not %+v", f.Ends(), e)
	}
}

// A new path is asked for, has these numbers and ends, and nothing else; what they are doesn't matter.
func TestNew(t *testing.T) {
	for _, first := range numbers {
		fresh(t, config, 3, ends, first)
	}
	for _, n := range odd {
		fresh(t, config, n, ends, 7)
		fresh(t, config, 3, flow.Ends{Path: n, Local: 1, Remote: 2}, 7)
		fresh(t, config, 3, flow.Ends{Path: 1, Local: uint16(n), Remote: 2}, 7)
		fresh(t, config, 3, flow.Ends{Path: 1, Local: 2, Remote: uint16(n)}, 7)
	}
	fresh(t, api.Config{}, 0, flow.Ends{}, 0)
}

// The window is one of Mss, the score of Score, the bucket of Burst and Rate, whichever they are; of others the nearer bound.
func TestNewConfig(t *testing.T) {
	for _, n := range odd {
		for _, c := range []api.Config{{Mss: n}, {Score: n}, {Burst: n}, {Rate: n, Burst: maxTicks}, {Mss: n, Score: n, Burst: n, Rate: n}} {
			fresh(t, c, 3, ends, 7)
			f := flow.New(c, 3, ends, 7)
			if got, want := f.Win.Size(), 4*within(1, 1024, c.Mss); got != want || f.Win.Room() != want || f.Win.Under() != 0 {
				t.Fatalf("%+v: Size %d, not %d", c, got, want)
			}
			limit := within(1, maxTicks, c.Score)
			f.Trust.Add(limit - 1)
			if f.Trust.Bad() || f.Trust.Points() != limit-1 {
				t.Fatalf("%+v: Bad", c)
			}
			if f.Trust.Add(1); !f.Trust.Bad() {
				t.Fatalf("%+v: not Bad", c)
			}
			tokens := within(0, maxTicks, c.Burst)
			for range tokens {
				f.Challenges.Take()
			}
			if f.Challenges.Take() {
				t.Fatalf("%+v: more than %d tokens", c, tokens)
			}
			f.Challenges.Tick(1)
			if got, want := f.Challenges.Left(), min(tokens, within(0, maxTicks, c.Rate)); got != want {
				t.Fatalf("%+v: %d tokens a tick, not %d", c, got, want)
			}
		}
	}
}

// Whatever became of a path, it ends where its fields say; looking turns nothing.
func TestEnds(t *testing.T) {
	for _, e := range []flow.Ends{{}, {1, 2, 3}, {3, 65535, 1}, {-1, 0, 65535}, {math.MinInt, 1, 1}, {math.MaxInt, 80, 80}} {
		f := busy()
		f.Path, f.Local, f.Remote = e.Path, e.Local, e.Remote
		keeps(t, f, "Ends", func(f *flow.Flow) {
			if got := f.Ends(); got != e {
				t.Errorf("Ends: %+v, not %+v", got, e)
			}
		})
	}
}

// each: paths in each state, new ones and others.
func each(call func(f *flow.Flow)) {
	for _, state := range states {
		for _, f := range []*flow.Flow{busy(), flow.New(config, 3, ends, 100)} {
			f.State = state
			call(f)
		}
	}
}

// Asked turns the state and what is waited for, alone.
func TestAsked(t *testing.T) {
	for _, seq := range numbers {
		each(func(f *flow.Flow) {
			turns(t, f, fmt.Sprintf("Asked(%d)", seq), func(f *flow.Flow) { f.Asked(seq) }, func(f *flow.Flow) {
				f.State, f.Wait = half, uint32((int64(seq)+1)%round)
			})
		})
	}
}

// Answered: all that was sent is acknowledged; nothing was heard; what was counted begins anew, but for Idle and the shift of the estimate.
func TestAnswered(t *testing.T) {
	for _, seq := range numbers {
		for _, next := range numbers {
			each(func(f *flow.Flow) {
				f.Next = next
				turns(t, f, fmt.Sprintf("Answered(%d)", seq), func(f *flow.Flow) { f.Answered(seq) }, func(f *flow.Flow) {
					f.State, f.Wait, f.Acked = up, uint32((int64(seq)+1)%round), next
					f.Age, f.Tries, f.Quiet, f.Heard = 0, 0, 0, false
				})
			})
		}
	}
}

// Rise: the first number is acknowledged, unless more is; word was heard; what was counted begins anew.
func TestRise(t *testing.T) {
	for _, first := range numbers {
		for _, acked := range append([]uint32{first, first + 1, first + 2, first + 1 + 1<<31, first + 1<<31, first + 2 + 1<<31}, numbers...) {
			each(func(f *flow.Flow) {
				f.Numbers.First, f.Acked = first, acked
				turns(t, f, "Rise", (*flow.Flow).Rise, func(f *flow.Flow) {
					f.State, f.Acked = up, ahead(acked, uint32((int64(first)+1)%round))
					f.Age, f.Tries, f.Quiet, f.Heard = 0, 0, 0, true
				})
			})
		}
	}
}

// A path that was answered and rises has its first number acknowledged, and no more, round the seam, too.
func TestRises(t *testing.T) {
	for _, first := range numbers {
		f := flow.New(config, 3, ends, first)
		f.Asked(50)
		f.Sent(f.Plain(make([]byte, 9)))
		f.Rise()
		if f.Acked != first+1 || f.Next != first+10 || f.Wait != 51 || f.State != up || !f.Heard {
			t.Errorf("%d: %+v", first, *f)
		}
	}
}

// P21.2

// Each segment leads from the port here to the one there, has the numbers that are asked for, and nothing else; and none of these calls turns anything.
func TestSegments(t *testing.T) {
	o := api.Option{Kind: api.KindKey, Body: []byte{1, 2, 3}}
	for _, a := range numbers {
		for _, b := range numbers {
			each(func(f *flow.Flow) {
				f.Local, f.Remote = uint16(a), uint16(b)+1
				f.Numbers.First, f.Next, f.Wait, f.Acked = a, b, a+b, 12345
				s := api.Segment{Src: f.Local, Dst: f.Remote}
				hello, reply, plain, reset := s, s, s, s
				hello.Seq, hello.Flags, hello.Opts = a, syn, []api.Option{o}
				reply.Seq, reply.Ack, reply.Flags = a, a+b, syn|ack
				plain.Seq, plain.Ack, plain.Flags, plain.Data = b, a+b, ack, []byte("xyz")
				reset.Seq, reset.Flags = b, rst
				segment(t, f, "Hello", func() api.Segment { return f.Hello(o) }, hello)
				segment(t, f, "Reply", f.Reply, reply)
				segment(t, f, "Plain", func() api.Segment { return f.Plain([]byte("xyz")) }, plain)
				segment(t, f, "Reset", func() api.Segment { return f.Reset(b) }, reset)
			})
		}
	}
}

// Hello takes any option, such as may not be sent, too; Plain any data.
func TestAnyPart(t *testing.T) {
	f := flow.New(config, 3, ends, 7)
	for kind := range 256 {
		for _, n := range []int{0, 1, 200, 255, 256, 1000} {
			o := api.Option{Kind: byte(kind), Body: bytes.Repeat([]byte{byte(n)}, n)}
			segment(t, f, "Hello", func() api.Segment { return f.Hello(o) }, api.Segment{Src: 5, Dst: 80, Seq: 7, Flags: syn, Opts: []api.Option{o}})
		}
	}
	segment(t, f, "Hello", func() api.Segment { return f.Hello(api.Option{}) }, api.Segment{Src: 5, Dst: 80, Seq: 7, Flags: syn, Opts: []api.Option{{}}})
	for _, n := range []int{0, 1, 9, 10, 11, 1023, 1024, 1025, 70000} {
		data := bytes.Repeat([]byte{7}, n)
		segment(t, f, "Plain", func() api.Segment { return f.Plain(data) }, api.Segment{Src: 5, Dst: 80, Seq: 8, Flags: ack, Data: data})
	}
	segment(t, f, "Plain", func() api.Segment { return f.Plain(nil) }, api.Segment{Src: 5, Dst: 80, Seq: 8, Flags: ack})
}

// What is answered shares no memory with what was handed in, nor with another answer; what was handed in stays as it was, behind its length, too.
func TestNewMemory(t *testing.T) {
	f := flow.New(config, 3, ends, 7)
	back := []byte("abcdef")
	text := back[1:4]
	o := api.Option{Kind: 9, Body: text}
	hello, plain := f.Hello(o), f.Plain(text)
	other, another := f.Hello(o), f.Plain(text)
	for _, s := range []api.Segment{hello, plain} {
		for _, b := range append([][]byte{s.Data}, bodies(s)...) {
			clear(b)
			_ = append(b, "zzzzzz"...)
		}
		_ = append(s.Opts, api.Option{Kind: 99})
	}
	if string(back) != "abcdef" || string(o.Body) != "bcd" {
		t.Errorf("%s", back)
	}
	copy(back, "XXXXXX")
	if string(other.Opts[0].Body) != "bcd" || string(another.Data) != "bcd" {
		t.Errorf("%+v, %+v", other, another)
	}
	hello.Opts[0].Kind = 1
	if other.Opts[0].Kind != 9 || o.Kind != 9 {
		t.Error(other)
	}
}

// bodies: those of a segment's options.
func bodies(s api.Segment) [][]byte {
	var l [][]byte
	for _, o := range s.Opts {
		l = append(l, o.Body)
	}
	return l
}

// The option that asks for a further path says which connection, what was drawn here, the path's number cut to a byte, and whether it is for need alone; it is no answer.
func TestJoins(t *testing.T) {
	for _, token := range numbers {
		for _, id := range odd {
			for _, backup := range []bool{false, true} {
				f := busy()
				f.ID, f.Backup, f.Nonce, f.Other = id, backup, token+1, token+2
				keeps(t, f, "Joins", func(f *flow.Flow) {
					low := byte(((id % 256) + 256) % 256)
					if got := f.Joins(token); got != (opt.Join{Token: token, Nonce: token + 1, ID: low, Backup: backup}) {
						t.Fatalf("Joins(%d) of %d, %v: %+v", token, id, backup, got)
					}
				})
			}
		}
	}
	for id := range 256 {
		f := flow.New(config, id, ends, 7)
		if j, ok := opt.ParseJoin(f.Joins(5).Option()); !ok || int(j.ID) != id || j.Answer || j.Token != 5 || j.Nonce != 0 || j.Backup {
			t.Fatalf("%d: %+v", id, j)
		}
	}
}

// P21.3

// Each segment that was sent ends the time in which nothing was; with SYN, whatever else it has, it takes no number, without it one for each byte of its data.
func TestSent(t *testing.T) {
	for flags := range 256 {
		for _, many := range []int{0, 1, 2, 10, 1024, 70000} {
			for _, next := range []uint32{0, 100, 1<<31 - 1, last - 69999, last - 1, last} {
				f := busy()
				f.Next = next
				want := next
				if flags%2 == 0 {
					want = uint32((int64(next) + int64(many)) % round)
				}
				s := api.Segment{Src: 9, Dst: 9, Seq: 777, Ack: 888, Flags: byte(flags), Opts: []api.Option{{Kind: 1, Body: []byte{1}}}, Data: make([]byte, many)}
				turns(t, f, fmt.Sprintf("Sent of flags %d, %d bytes", flags, many), func(f *flow.Flow) {
					if got := f.Sent(s); got != want {
						t.Fatalf("Sent of flags %d, %d bytes, Next %d: %d, not %d", flags, many, next, got, want)
					}
				}, func(f *flow.Flow) { f.Next, f.Idle = want, 0 })
			}
		}
	}
}

// Whatever state a path is in, what it sent is counted.
func TestSentState(t *testing.T) {
	each(func(f *flow.Flow) {
		next := f.Next
		for _, s := range []api.Segment{f.Hello(api.Option{Kind: 1}), f.Reply(), f.Reset(9), f.Plain(nil)} {
			f.Idle = 5
			if f.Sent(s) != next || f.Idle != 0 {
				t.Fatalf("%+v: %d, not %d", s, f.Next, next)
			}
		}
		if f.Sent(f.Plain([]byte("abc"))) != next+3 || f.Plain(nil).Seq != next+3 {
			t.Fatalf("%d, not %d", f.Next, next+3)
		}
	})
}

// came: is what is waited for, and what is acknowledged, as it is to be, when such a segment comes?
func came(t *testing.T, f *flow.Flow, s api.Segment) {
	t.Helper()
	takes := int64(len(s.Data))
	if s.Flags%2 == 1 {
		takes++
	}
	wait := ahead(f.Wait, uint32((int64(s.Seq)+takes)%round))
	word := between(s.Ack, f.Acked, f.Next)
	turns(t, f, fmt.Sprintf("Came(%+v)", s), func(f *flow.Flow) {
		if got := f.Came(s); got != word {
			t.Fatalf("Came(%+v): %v, not %v (%+v)", s, got, word, f.Numbers)
		}
	}, func(f *flow.Flow) {
		f.Wait = wait
		if word {
			f.Acked = s.Ack
		}
	})
}

// What is waited for goes on, and never back: at each place of a segment, with each number of data, with SYN and without.
func TestCameWait(t *testing.T) {
	for _, wait := range numbers {
		for _, by := range []uint32{0, 1, 2, 3, 5, 9, 10, 11, 1 << 20, 1<<31 - 11, 1<<31 - 10, 1<<31 - 2, 1<<31 - 1, 1 << 31} {
			for _, seq := range []uint32{wait + by, wait - by} {
				for _, many := range []int{0, 1, 2, 10} {
					for _, flags := range []byte{0, syn, ack, ack | syn, rst, 255, 254} {
						f := busy()
						f.Wait = wait
						came(t, f, api.Segment{Seq: seq, Ack: 121, Flags: flags, Data: make([]byte, many)})
					}
				}
			}
		}
	}
}

// What lies behind Acked, up to Next, is acknowledged, and true; all else is not, and what is waited for goes on all the same.
func TestCameAck(t *testing.T) {
	for _, acked := range numbers {
		for _, under := range []uint32{0, 1, 2, 50, 1 << 20, 1<<31 - 2, 1<<31 - 1, 1 << 31, 1<<31 + 1, last - 1, last} {
			next := acked + under
			for _, by := range []uint32{0, 1, 2, 49, 50, 51, 1<<31 - 1, 1 << 31, 1<<31 + 1} {
				for _, a := range []uint32{acked + by, acked - by, next + by, next - by} {
					f := busy()
					f.Acked, f.Next = acked, next
					came(t, f, api.Segment{Seq: 900, Ack: a, Flags: ack, Data: []byte("ab")})
				}
			}
		}
	}
}

// The same word acknowledges once; later word acknowledges more; neither its state nor whether it was heard matters, nor is turned.
func TestCameOnce(t *testing.T) {
	each(func(f *flow.Flow) {
		f.Acked, f.Next = last-3, 6
		for n, s := range []struct {
			ack  uint32
			want bool
		}{{last - 3, false}, {last - 4, false}, {7, false}, {last, true}, {last, false}, {last - 1, false}, {0, true}, {5, true}, {5, false}, {6, true}, {6, false}, {7, false}} {
			if got := f.Came(api.Segment{Seq: f.Wait, Ack: s.ack}); got != s.want {
				t.Fatalf("%d: Came: %v (%+v)", n, got, f.Numbers)
			}
		}
		if f.Acked != 6 {
			t.Error(f.Acked)
		}
	})
}

// P21.4

// A tick counts, up to the bounds, and goes by for the score and the bucket; nothing else is turned.
func TestTick(t *testing.T) {
	counts := append([]int{maxTicks - 2, 4*maxTicks - 2, 4*maxTicks - 1, 4 * maxTicks, 4*maxTicks + 1}, odd...)
	for _, idle := range counts {
		for _, age := range counts {
			for _, quiet := range counts {
				f := busy()
				f.Idle, f.Age, f.Quiet = idle, age, quiet
				was := seen(f)
				was.flow.Idle, was.flow.Age, was.flow.Quiet = counted(idle, maxTicks), counted(age, maxTicks), counted(quiet, 4*maxTicks)
				was.trust.Tick(1)
				was.challenges.Tick(1)
				f.Tick()
				if got := seen(f); got != was {
					t.Fatalf("Tick of %d, %d, %d: %s", idle, age, quiet, say(f))
				}
			}
		}
	}
}

// counted: one more, at most so many.
func counted(n, most int) int {
	if n >= most {
		return most
	}
	return n + 1
}

// A path that nothing comes on counts its ticks up to the bounds, and stays there.
func TestTicks(t *testing.T) {
	each(func(f *flow.Flow) {
		f.Idle, f.Age, f.Quiet = 0, 0, 0
		for n := 1; n < 5*maxTicks; n++ {
			f.Tick()
			if f.Idle != min(n, 4096) || f.Age != min(n, 4096) || f.Quiet != min(n, 16384) {
				t.Fatalf("%d ticks: %d, %d, %d", n, f.Idle, f.Age, f.Quiet)
			}
		}
	})
}

// Each tick Rate tokens come back, and each eight of them take a point.
func TestTickParts(t *testing.T) {
	for rate := range 5 {
		f := flow.New(api.Config{Mss: 10, Score: 20, Burst: 30, Rate: rate}, 3, ends, 7)
		f.Trust.Add(40)
		for f.Challenges.Take() {
		}
		for n := 1; n < 100; n++ {
			f.Tick()
			if f.Challenges.Left() != min(30, n*rate) || f.Trust.Points() != 40-n/8 || f.Trust.Bad() != (40-n/8 >= 20) {
				t.Fatalf("%d ticks of %d: %d tokens, %d points", n, rate, f.Challenges.Left(), f.Trust.Points())
			}
		}
	}
}

// A handshake is sent once more where the path is asked for, and as many ticks went by as one waits; else nothing is turned.
func TestRetry(t *testing.T) {
	for _, sample := range []int{-1, 0, 1, 2, 5, 10, 100} { // -1: nothing is known
		for backs := range 10 {
			for _, state := range states {
				try := busy()
				try.Est = rto.Est{}
				if sample >= 0 {
					try.Sample(sample)
				}
				for range backs {
					try.Back()
				}
				wait := try.Patience()
				for _, age := range append([]int{wait - 2, wait - 1, wait, wait + 1}, odd...) {
					f := *try
					f.State, f.Age = state, age
					retried(t, &f, state == opening && age >= wait)
				}
			}
		}
	}
}

// retried: is a handshake sent once more, as it is to be?
func retried(t *testing.T, f *flow.Flow, want bool) {
	t.Helper()
	turns(t, f, "Retry", func(f *flow.Flow) {
		if got := f.Retry(); got != want {
			t.Fatalf("Retry: %v, not %v (%s)", got, want, say(f))
		}
	}, func(f *flow.Flow) {
		if want {
			f.Est.Back()
			f.Age, f.Tries = 0, f.Tries+1
		}
	})
}

// Of a path of which nothing is known the handshake goes again behind 8 ticks, 16 more, and so on, up to 256; once it is there no more.
func TestRetries(t *testing.T) {
	f := flow.New(config, 3, ends, 7)
	waits := []int{8, 16, 32, 64, 128, 256, 256, 256, 256, 256, 256}
	for n, wait := range waits {
		if f.Tries != n || f.Retry() {
			t.Fatal(n, f.Tries)
		}
		for range wait - 1 {
			if f.Tick(); f.Retry() {
				t.Fatal(n, f.Age)
			}
		}
		if f.Tick(); !f.Retry() || f.Age != 0 || f.Tries != n+1 || f.Backs() != min(n+1, 8) {
			t.Fatal(n, f.Age, f.Tries, f.Backs())
		}
	}
	f.Answered(9)
	for range 1000 {
		if f.Tick(); f.Retry() || f.Tries != 0 {
			t.Fatal(f.Age)
		}
	}
}

// P21.5

// The scheduler is told what the path is: each field of its own.
func TestView(t *testing.T) {
	for _, state := range states {
		for bits := range 4 {
			for _, id := range odd {
				f := flow.New(config, id, ends, 7)
				f.State, f.Backup, f.First, f.Heard = state, bits%2 == 1, bits%2 == 0, bits%2 == 0
				f.Trust.Add(3 + bits/2)
				f.Win.Sent(7)
				f.Sample(20 + bits)
				want := sched.Path{ID: id, Up: state == up, Backup: bits%2 == 1, Bad: bits/2 == 1, Room: 33, Under: 7, Mean: 20 + bits}
				keeps(t, f, "View", func(f *flow.Flow) {
					if got := f.View(); got != want {
						t.Fatalf("View: %+v, not %+v", got, want)
					}
				})
			}
		}
	}
}

// The other paths' windows are told how great its own is, and its mean.
func TestShare(t *testing.T) {
	f := flow.New(config, 3, ends, 7)
	for n := range 100 {
		f.Win.Sent(10)
		keeps(t, f, "Share", func(f *flow.Flow) {
			if got := f.Share(); got != (cwnd.Path{Size: f.Win.Size(), Mean: f.Est.Mean()}) {
				t.Fatalf("%d: Share: %+v", n, got)
			}
		})
		if v := f.View(); v.Room != f.Win.Room() || v.Under != f.Win.Under() || v.Mean != f.Est.Mean() {
			t.Fatalf("%d: View: %+v", n, v)
		}
		switch n {
		case 0:
			if f.Share() != (cwnd.Path{Size: 40, Mean: 8}) || f.View().Room != 30 {
				t.Fatal(f.Share())
			}
		case 50:
			f.Win.Lost(10)
			if f.Share().Size != 10 {
				t.Fatal(f.Share())
			}
		}
		f.Win.Acked(10, f.Share())
		f.Sample(n)
	}
}

// Ways

// What a path embeds has its calls and its numbers promoted: they are the path's, and turn what it says.
func TestPromoted(t *testing.T) {
	f := flow.New(config, 3, ends, 7)
	var n *judge.Numbers = &f.Numbers
	var e *rto.Est = &f.Est
	n.State, n.Wait = up, 40
	if f.State != up || f.Wait != 40 || !f.View().Up || f.Plain(nil).Ack != 40 {
		t.Error(f.Numbers)
	}
	f.Sample(10)
	f.Back()
	if e.Patience() != 60 || f.Patience() != 60 || e.Mean() != 10 || f.Mean() != 10 || f.Backs() != 1 || f.View().Mean != 10 || f.Share().Mean != 10 {
		t.Error(f.Patience(), f.Mean(), f.Backs())
	}
	if f.First || f.Numbers.First != 7 {
		t.Error(f.First, f.Numbers.First)
	}
	typ := reflect.TypeFor[flow.Flow]()
	for _, name := range []string{"Numbers", "Est"} {
		if x, ok := typ.FieldByName(name); !ok || !x.Anonymous {
			t.Errorf("%s isn't embedded", name)
		}
	}
}

// The whole

// Two ends' paths come up by handshake and one word, as layer 15 lets it, and acknowledge one another's data, wherever their numbers begin.
func TestHandshake(t *testing.T) {
	for _, a := range numbers {
		for _, b := range numbers {
			client := flow.New(config, 1, flow.Ends{Path: 1, Local: 5, Remote: 80}, a)
			server := flow.New(config, 1, flow.Ends{Path: 1, Local: 80, Remote: 5}, b)
			hello := client.Hello(api.Option{Kind: api.KindKey})
			client.Sent(hello)
			server.Asked(hello.Seq)
			passes(t, server, hello)
			reply := server.Reply()
			server.Sent(reply)
			passes(t, client, reply)
			client.Answered(reply.Seq)
			word := client.Plain([]byte("abc"))
			if client.Sent(word) != a+4 || client.Acked != a+1 {
				t.Fatalf("%+v", client.Numbers)
			}
			passes(t, server, word)
			server.Rise()
			if server.Came(word) || server.Wait != a+4 {
				t.Fatalf("%+v", server.Numbers)
			}
			back := server.Plain([]byte("xy"))
			server.Sent(back)
			passes(t, client, back)
			if !client.Came(back) || client.Came(back) || client.Acked != a+4 || client.Wait != b+3 {
				t.Fatalf("%+v", client.Numbers)
			}
			if judge.Judge(server.Numbers, client.Reset(server.Wait), false) != judge.Remove {
				t.Fatal("Reset")
			}
		}
	}
}

func passes(t *testing.T, f *flow.Flow, s api.Segment) {
	t.Helper()
	if v := judge.Judge(f.Numbers, s, true); v != judge.Pass || s.Src != f.Remote || s.Dst != f.Local {
		t.Fatalf("%+v at %+v: %d", s, f.Numbers, v)
	}
}

// P1, P2

// slow is a path by the words of the chapter, in numbers that don't go round by themselves.
type slow struct {
	state                    api.State
	first, acked, next, wait int64
	heard                    bool
	idle, age, quiet, tries  int
	est                      rto.Est
	win                      cwnd.Window
	trust                    quar.Score
	challenges               bucket.Bucket
}

func newSlow(c api.Config, first uint32) *slow {
	return &slow{
		state: opening, first: int64(first), acked: int64(first), next: (int64(first) + 1) % round,
		win: *cwnd.New(c.Mss), trust: *quar.New(c.Score), challenges: *bucket.New(c.Burst, c.Rate),
	}
}

func (s *slow) up(heard bool) { s.state, s.heard, s.age, s.tries, s.quiet = up, heard, 0, 0, 0 }

// both is a path, the slow one to which the same was done, and what was done.
type both struct {
	flow *flow.Flow
	slow *slow
	told []string
}

func newBoth(c api.Config, first uint32) *both {
	return &both{flow: flow.New(c, 3, ends, first), slow: newSlow(c, first), told: []string{fmt.Sprintf("New(%+v, %d)", c, first)}}
}

// look: does a path say what it is to say, when it is looked at?
func (b *both) look(t *testing.T) {
	t.Helper()
	f, s := b.flow, b.slow
	want := flow.Flow{
		Numbers: judge.Numbers{State: s.state, First: uint32(s.first), Acked: uint32(s.acked), Next: uint32(s.next), Wait: uint32(s.wait)},
		Est:     s.est,
		ID:      3, Path: 2, Local: 5, Remote: 80,
		Win: f.Win, Trust: f.Trust, Challenges: f.Challenges,
		Idle: s.idle, Quiet: s.quiet, Heard: s.heard, Age: s.age, Tries: s.tries,
	}
	if got := seen(f); got != (state{want, s.win, s.trust, s.challenges}) {
		t.Fatalf("%v:\n%s\nnot %+v", b.told, say(f), want)
	}
}

// did: what was done.
func (b *both) did(t *testing.T, told string, n int64, ok bool) {
	t.Helper()
	b.told = append(b.told, fmt.Sprintf("%s %d", told, n))
	if !ok {
		t.Fatalf("%v: another answer", b.told)
	}
	b.look(t)
}

func (b *both) asked(t *testing.T, seq uint32) {
	t.Helper()
	b.flow.Asked(seq)
	b.slow.state, b.slow.wait = half, (int64(seq)+1)%round
	b.did(t, "Asked", int64(seq), true)
}

func (b *both) answered(t *testing.T, seq uint32) {
	t.Helper()
	b.flow.Answered(seq)
	b.slow.up(false)
	b.slow.wait, b.slow.acked = (int64(seq)+1)%round, b.slow.next
	b.did(t, "Answered", int64(seq), true)
}

func (b *both) rise(t *testing.T) {
	t.Helper()
	b.flow.Rise()
	b.slow.up(true)
	b.slow.acked = int64(ahead(uint32(b.slow.acked), uint32((b.slow.first+1)%round)))
	b.did(t, "Rise", 0, true)
}

func (b *both) send(t *testing.T, s api.Segment) {
	t.Helper()
	n := b.flow.Sent(s)
	if s.Flags%2 == 0 {
		b.slow.next = (b.slow.next + int64(len(s.Data))) % round
	}
	b.slow.idle = 0
	b.did(t, fmt.Sprintf("Sent(%+v)", s), int64(n), int64(n) == b.slow.next)
}

func (b *both) came(t *testing.T, s api.Segment) {
	t.Helper()
	got := b.flow.Came(s)
	end := int64(s.Seq) + int64(len(s.Data)) + int64(s.Flags%2)
	b.slow.wait = int64(ahead(uint32(b.slow.wait), uint32(end%round)))
	want := between(s.Ack, uint32(b.slow.acked), uint32(b.slow.next))
	if want {
		b.slow.acked = int64(s.Ack)
	}
	b.did(t, fmt.Sprintf("Came(%+v)", s), 0, got == want)
}

func (b *both) tick(t *testing.T) {
	t.Helper()
	b.flow.Tick()
	s := b.slow
	s.idle, s.age, s.quiet = counted(s.idle, maxTicks), counted(s.age, maxTicks), counted(s.quiet, 4*maxTicks)
	s.trust.Tick(1)
	s.challenges.Tick(1)
	b.did(t, "Tick", 0, true)
}

func (b *both) retry(t *testing.T) {
	t.Helper()
	s := b.slow
	want := s.state == opening && !(s.age < s.est.Patience())
	if want {
		s.est.Back()
		s.age = 0
		s.tries++
	}
	b.did(t, "Retry", 0, b.flow.Retry() == want)
}

// parts: what a path has beside its numbers is turned by their own calls.
func (b *both) parts(t *testing.T, which, n int) {
	t.Helper()
	switch f, s := b.flow, b.slow; which {
	case 0:
		f.Sample(n)
		s.est.Sample(n)
	case 1:
		f.Win.Sent(n)
		s.win.Sent(n)
	case 2:
		f.Trust.Add(n)
		s.trust.Add(n)
	default:
		f.Challenges.Take()
		s.challenges.Take()
	}
	b.did(t, fmt.Sprintf("part %d", which), int64(n), true)
}

// views: what others are told of it.
func (b *both) views(t *testing.T) {
	t.Helper()
	s := b.slow
	view := sched.Path{ID: 3, Up: s.state == up, Bad: s.trust.Bad(), Room: s.win.Room(), Under: s.win.Under(), Mean: s.est.Mean()}
	b.did(t, "View", 0, b.flow.View() == view)
	b.did(t, "Share", 0, b.flow.Share() == cwnd.Path{Size: s.win.Size(), Mean: s.est.Mean()})
	b.did(t, "Ends", 0, b.flow.Ends() == ends)
}

// says: the segments that it would send.
func (b *both) says(t *testing.T, n uint32) {
	t.Helper()
	s, f := b.slow, b.flow
	made := func(seq, ack int64, flags byte) api.Segment {
		return api.Segment{Src: 5, Dst: 80, Seq: uint32(seq), Ack: uint32(ack), Flags: flags}
	}
	hello, plain := made(s.first, 0, syn), made(s.next, s.wait, ack)
	hello.Opts, plain.Data = []api.Option{{Kind: 4, Body: []byte{1}}}, []byte("ab")
	b.did(t, "Hello", 0, same(f.Hello(hello.Opts[0]), hello))
	b.did(t, "Reply", 0, same(f.Reply(), made(s.first, s.wait, syn|ack)))
	b.did(t, "Plain", 0, same(f.Plain(plain.Data), plain))
	b.did(t, "Reset", int64(n), same(f.Reset(n), made(int64(n), 0, rst)))
}

// drawn: one call, whose numbers are near the path's own, most of them.
func (b *both) drawn(t *testing.T, r *rand.Rand) {
	t.Helper()
	near := func(n int64) uint32 {
		if r.Intn(10) == 0 {
			return uint32(n) + numbers[r.Intn(len(numbers))]
		}
		return uint32(n) + uint32(r.Intn(40)) - 20
	}
	s := api.Segment{Seq: near(b.slow.wait), Ack: near(b.slow.acked + int64(r.Intn(20))), Flags: byte(r.Intn(8)), Data: make([]byte, r.Intn(12))}
	switch r.Intn(14) {
	case 0:
		b.asked(t, near(b.slow.wait))
	case 1:
		b.answered(t, near(b.slow.wait))
	case 2:
		b.rise(t)
	case 3, 4:
		b.send(t, s)
	case 5, 6, 7:
		b.came(t, s)
	case 8:
		for range r.Intn(20) {
			b.tick(t)
		}
	case 9:
		b.retry(t)
	case 10:
		b.parts(t, r.Intn(4), r.Intn(15))
	case 11:
		b.views(t)
	case 12:
		b.says(t, near(b.slow.wait))
	default:
		b.tick(t)
		b.retry(t)
	}
}

// Drawn runs; some of the paths are asked for all the time.
func TestDrawn(t *testing.T) {
	r := rand.New(rand.NewSource(21))
	for range 1500 {
		c := api.Config{Mss: r.Intn(20), Score: r.Intn(8), Burst: r.Intn(4), Rate: r.Intn(2)}
		b := newBoth(c, numbers[r.Intn(len(numbers))])
		b.look(t)
		for range 100 {
			b.drawn(t, r)
		}
	}
}

// Each run of four calls of a path.
func TestEachRun(t *testing.T) {
	data := api.Segment{Seq: last - 1, Ack: 2, Flags: ack, Data: []byte("abc")}
	calls := []func(b *both){
		func(b *both) { b.asked(t, last) },
		func(b *both) { b.answered(t, last-2) },
		func(b *both) { b.rise(t) },
		func(b *both) { b.send(t, data) },
		func(b *both) { b.send(t, api.Segment{Flags: syn | ack, Data: []byte("x")}) },
		func(b *both) { b.came(t, data) },
		func(b *both) { b.came(t, api.Segment{Seq: 3, Ack: 1, Flags: syn}) },
		func(b *both) { b.tick(t) },
		func(b *both) {
			for range 8 {
				b.tick(t)
			}
		},
		func(b *both) { b.retry(t) },
	}
	for n := range 10 * 10 * 10 * 10 {
		b := newBoth(config, last)
		for range 4 {
			calls[n%10](b)
			n /= 10
		}
	}
}

// No path matters to another one, though they were made of the same.
func TestAlone(t *testing.T) {
	r := rand.New(rand.NewSource(212))
	one, two := newBoth(config, 5), newBoth(config, 5)
	if one.flow.Win == two.flow.Win || one.flow.Trust == two.flow.Trust || one.flow.Challenges == two.flow.Challenges {
		t.Fatal("two paths share what they are made of")
	}
	for range 3000 {
		one.told, two.told = nil, nil
		[]*both{one, two}[r.Intn(2)].drawn(t, r)
		one.look(t)
		two.look(t)
	}
}
