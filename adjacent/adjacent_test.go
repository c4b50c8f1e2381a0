package adjacent_test

import (
	"math"
	"slices"
	"testing"

	"lodestar/adjacent"
	"lodestar/api"
)

// low: one that is no master, as Other is greater; high: one that is.
func low() adjacent.Config {
	return adjacent.Config{Self: 1, Other: 2, Opts: 2, Rxmt: 5, Seq: 100, Types: 0xFFFF}
}

func high() adjacent.Config {
	return adjacent.Config{Self: 2, Other: 1, Opts: 2, Rxmt: 5, Seq: 100, Types: 0xFFFF}
}

// head: of a router state of id; heads: n of them, from that one on.
func head(id uint32, seq int32) api.Head {
	return api.Head{Type: 1, ID: id, Adv: id, Seq: seq, Len: 24}
}

func heads(from uint32, n int) []api.Head {
	var l []api.Head
	for i := range uint32(n) {
		l = append(l, head(from+i, 1))
	}
	return l
}

func keys(l []api.Head) []api.Key {
	var k []api.Key
	for _, h := range l {
		k = append(k, keyOf(h))
	}
	return k
}

// dd: a description with Opts 2, as the other one sends it.
func dd(flags uint8, number uint32, l ...api.Head) api.DDBody {
	return api.DDBody{Opts: 2, Flags: flags, Seq: number, Heads: l}
}

// told: a description as it is sent; asks: a request.
func told(flags uint8, number uint32, l ...api.Head) adjacent.Out {
	return adjacent.Out{Describe: true, DD: dd(flags, number, l...)}
}

func asks(l ...api.Head) adjacent.Out { return adjacent.Out{Keys: keys(l)} }

func sameDD(a, b api.DDBody) bool {
	return a.MTU == b.MTU && a.Opts == b.Opts && a.Flags == b.Flags && a.Seq == b.Seq && slices.Equal(a.Heads, b.Heads)
}

func sameOut(a, b adjacent.Out) bool {
	return a.Describe == b.Describe && sameDD(a.DD, b.DD) && slices.Equal(a.Keys, b.Keys)
}

func wantOut(t *testing.T, what string, got []adjacent.Out, want ...adjacent.Out) {
	t.Helper()
	if !slices.EqualFunc(got, want, sameOut) {
		t.Fatalf("%s: sent %v; want %v", what, got, want)
	}
}

func made(t *testing.T, c adjacent.Config) *adjacent.Adjacency {
	t.Helper()
	a, out, e := adjacent.New(c)
	if a == nil || e != api.OK {
		t.Fatalf("P14.1: New(%v): %d", c, e)
	}
	first := api.DDBody{MTU: c.MTU, Opts: c.Opts, Flags: 7, Seq: c.Seq}
	wantOut(t, "P14.1: New", out, adjacent.Out{Describe: true, DD: first})
	wantIs(t, "P14.1: New", a, adjacent.Start, false, 0)
	return a
}

// wantIs: the state, the master, Opts, and what is wanted.
func wantIs(t *testing.T, what string, a *adjacent.Adjacency, state uint8, master bool, opts uint8, wants ...api.Head) {
	t.Helper()
	if a.State() != state || a.Master() != master || a.Opts() != opts || !slices.Equal(a.Wants(), wants) {
		t.Fatalf("%s: state %d, master %t, Opts %d, wants %v; want %d, %t, %d, %v", what, a.State(), a.Master(), a.Opts(), a.Wants(), state, master, opts, wants)
	}
}

func wantDescribe(t *testing.T, what string, a *adjacent.Adjacency, p api.DDBody, own []api.Head, e api.Errno, out ...adjacent.Out) {
	t.Helper()
	got, f := a.Describe(p, own)
	if f != e {
		t.Fatalf("%s: Describe(%v): %d; want %d", what, p, f, e)
	}
	wantOut(t, what, got, out...)
}

func wantAsked(t *testing.T, what string, a *adjacent.Adjacency, k []api.Key, own []api.Head, e api.Errno, answer []api.Key, out ...adjacent.Out) {
	t.Helper()
	got, sent, f := a.Asked(k, own)
	if f != e || !slices.Equal(got, answer) {
		t.Fatalf("%s: Asked(%v): %v, %d; want %v, %d", what, k, got, f, answer, e)
	}
	wantOut(t, what, sent, out...)
}

// wantTicks: nothing for n-1 ticks, then that.
func wantTicks(t *testing.T, what string, a *adjacent.Adjacency, n int, out ...adjacent.Out) {
	t.Helper()
	for range n - 1 {
		wantOut(t, what+", not yet", a.Tick())
	}
	wantOut(t, what, a.Tick(), out...)
}

// led: one that is no master, in Exchange, with the number 40; leading: a master, with 101.
func led(t *testing.T, own ...api.Head) *adjacent.Adjacency {
	t.Helper()
	a := made(t, low())
	if _, e := a.Describe(dd(7, 40), own); e != api.OK || a.State() != adjacent.Exchange {
		t.Fatalf("P14.2: no Exchange: %d", e)
	}
	return a
}

func leading(t *testing.T, own ...api.Head) *adjacent.Adjacency {
	t.Helper()
	a := made(t, high())
	if _, e := a.Describe(dd(2, 100), own); e != api.OK || a.State() != adjacent.Exchange {
		t.Fatalf("P14.2: no Exchange: %d", e)
	}
	return a
}

// loading: one that is no master, with the number 41, that wants all of these.
func loading(t *testing.T, l ...api.Head) *adjacent.Adjacency {
	t.Helper()
	a := led(t)
	want := l[:min(16, len(l))]
	wantDescribe(t, "P14.2", a, dd(1, 41, l...), nil, api.OK, told(0, 41), asks(want...))
	wantIs(t, "P14.2", a, adjacent.Loading, false, 2, l...)
	return a
}

func full(t *testing.T) *adjacent.Adjacency {
	t.Helper()
	a := led(t)
	wantDescribe(t, "P14.2", a, dd(1, 41), nil, api.OK, told(0, 41))
	wantIs(t, "P14.2", a, adjacent.Full, false, 2)
	return a
}

// fullMaster: with the number 101.
func fullMaster(t *testing.T) *adjacent.Adjacency {
	t.Helper()
	a := leading(t)
	wantDescribe(t, "P14.2", a, dd(0, 101), nil, api.OK)
	wantIs(t, "P14.2", a, adjacent.Full, true, 2)
	return a
}

func TestExamples(t *testing.T) {
	h := api.Head{Type: api.RouterState, ID: 2, Adv: 2, Seq: api.FirstSeq}
	a, out, e := adjacent.New(low())
	if e != api.OK {
		t.Fatalf("example: New: %d", e)
	}
	wantOut(t, "example: New", out, told(7, 100))
	wantIs(t, "example: New", a, adjacent.Start, false, 0)
	wantDescribe(t, "example: the first one", a, dd(7, 40), nil, api.OK, told(0, 40))
	wantIs(t, "example: the first one", a, adjacent.Exchange, false, 2)
	wantDescribe(t, "example: the next", a, dd(1, 41, h), nil, api.OK, told(0, 41), asks(h))
	wantIs(t, "example: the next", a, adjacent.Loading, false, 2, h)
	wantDescribe(t, "example: the same again", a, dd(1, 41, h), nil, api.OK, told(0, 41))
	wantOut(t, "example: Got", a.Got(h))
	wantIs(t, "example: Got", a, adjacent.Full, false, 2)
	wantDescribe(t, "example: what does not fit", a, dd(1, 50), nil, api.ErrSeq, told(7, 42))
	wantIs(t, "example: what does not fit", a, adjacent.Start, false, 0)

	a, out, _ = adjacent.New(high())
	wantOut(t, "example: a master", out, told(7, 100))
	wantDescribe(t, "example: a master", a, dd(0, 100), nil, api.OK, told(1, 101))
	wantIs(t, "example: a master", a, adjacent.Exchange, true, 2)
	wantDescribe(t, "example: a master", a, dd(0, 101), nil, api.OK)
	wantIs(t, "example: a master", a, adjacent.Full, true, 2)
}

func TestStates(t *testing.T) {
	l := [4]uint8{adjacent.Start, adjacent.Exchange, adjacent.Loading, adjacent.Full}
	if l != [4]uint8{0, 1, 2, 3} || adjacent.PerPacket != 16 {
		t.Errorf("the chapter's numbers: %v, %d", l, adjacent.PerPacket)
	}
}

func TestNew(t *testing.T) {
	ids := []uint32{0, 1, 2, 1 << 31, math.MaxUint32}
	for _, self := range ids {
		for _, other := range ids {
			for _, rxmt := range []uint16{0, 1, 5, 65535} {
				for _, rest := range []adjacent.Config{{}, {MTU: 65535, Opts: 255, Seq: math.MaxUint32, Types: 0xFFFF}, {MTU: 1, Opts: 8, Seq: 7, Types: 1}} {
					c := rest
					c.Self, c.Other, c.Rxmt = self, other, rxmt
					if right(c) {
						made(t, c)
						continue
					}
					a, out, e := adjacent.New(c)
					if a != nil || len(out) > 0 || e != api.ErrConfig {
						t.Errorf("P14.1: New(%v): %v, %v, %d; want ErrConfig", c, a, out, e)
					}
				}
			}
		}
	}
}

// TestMTU: 0 asks nothing; a greater one of the other is refused ahead of all else, in every state, and changes nothing.
func TestMTU(t *testing.T) {
	for _, x := range []struct {
		own, other uint16
		e          api.Errno
	}{{0, 0, api.OK}, {0, 65535, api.OK}, {1, 0, api.OK}, {1, 1, api.OK}, {1, 2, api.ErrLength}, {1500, 1499, api.OK}, {1500, 1500, api.OK}, {1500, 1501, api.ErrLength}, {1500, 65535, api.ErrLength}, {65535, 65535, api.OK}} {
		c := low()
		c.MTU = x.own
		a := made(t, c)
		p := dd(7, 40)
		p.MTU = x.other
		out, e := a.Describe(p, nil)
		if e != x.e || len(out) != map[api.Errno]int{api.OK: 1}[e] {
			t.Errorf("P14.2: MTU %d, and %d: %v, %d; want %d", x.own, x.other, out, e, x.e)
		}
		if e == api.OK && out[0].DD.MTU != x.own {
			t.Errorf("P14.2: MTU %d is told as %d", x.own, out[0].DD.MTU)
		}
	}
	c := low()
	c.MTU = 1500
	a := made(t, c)
	for _, p := range []api.DDBody{dd(7, 40), dd(1, 41, head(3, 1)), dd(1, 99)} {
		great := p
		great.MTU = 1501
		state, opts, wants := a.State(), a.Opts(), a.Wants()
		wantDescribe(t, "P14.2: too great", a, great, nil, api.ErrLength)
		great.Flags, great.Seq = 3, 7
		wantDescribe(t, "P14.2: too great, and wrong", a, great, nil, api.ErrLength)
		wantIs(t, "P14.2: too great", a, state, false, opts, wants...)
		a.Describe(p, nil)
	}
}

// TestStart: every flag, either order of the routers, the own number and others, with heads and without.
func TestStart(t *testing.T) {
	own := heads(50, 3)
	for flags := range 256 {
		for _, number := range []uint32{99, 100, 101, 0, 40} {
			for _, l := range [][]api.Head{nil, heads(7, 1)} {
				f := uint8(flags)
				p := dd(f, number, l...)
				a := made(t, low())
				if f == 7 && len(l) == 0 {
					wantDescribe(t, "P14.2: Start, no master", a, p, own, api.OK, told(0, number, own...))
					wantIs(t, "P14.2: Start, no master", a, adjacent.Exchange, false, 2)
				} else {
					wantStays(t, a, p, own)
				}
				a = made(t, high())
				if f&5 == 0 && number == 100 {
					wantDescribe(t, "P14.2: Start, master", a, p, own, api.OK, told(1, 101, own...))
					wantIs(t, "P14.2: Start, master", a, adjacent.Exchange, true, 2, l...)
				} else {
					wantStays(t, a, p, own)
				}
			}
		}
	}
}

// wantStays: what does not fit in Start changes nothing, not even the time.
func wantStays(t *testing.T, a *adjacent.Adjacency, p api.DDBody, own []api.Head) {
	t.Helper()
	a.Tick()
	wantDescribe(t, "P14.2: Start", a, p, own, api.ErrSeq)
	wantIs(t, "P14.2: Start", a, adjacent.Start, false, 0)
	wantTicks(t, "P14.2: Start", a, 4, told(7, 100))
}

// TestWhoIsGreater: IDs are numbers without a sign.
func TestWhoIsGreater(t *testing.T) {
	ids := []uint32{1, 2, 1<<31 - 1, 1 << 31, math.MaxUint32}
	for i, self := range ids {
		for j, other := range ids {
			if i == j {
				continue
			}
			c := low()
			c.Self, c.Other = self, other
			a := made(t, c)
			if _, e := a.Describe(dd(7, 9), nil); e == api.OK != (i < j) {
				t.Errorf("P14.2: %d hears the first of %d: %d", self, other, e)
			}
			a = made(t, c)
			if _, e := a.Describe(dd(0, 100), nil); e == api.OK != (i > j) || a.Master() != (i > j) {
				t.Errorf("P14.2: %d hears the answer of %d: %d", self, other, e)
			}
		}
	}
}

// TestAnswerInStart: what a master takes of the first answer, whatever its Opts.
func TestAnswerInStart(t *testing.T) {
	for _, opts := range []uint8{0, 2, 0xFF} {
		a := made(t, high())
		p := dd(0, 100, head(5, 1), head(3, 1))
		p.Opts = opts
		wantDescribe(t, "P14.2: the answer", a, p, []api.Head{head(3, 1)}, api.OK, told(1, 101, head(3, 1)))
		wantIs(t, "P14.2: the answer", a, adjacent.Exchange, true, opts, head(5, 1))
		p.Seq, p.Heads = 101, nil
		wantDescribe(t, "P14.2: the end", a, p, nil, api.OK, asks(head(5, 1)))
		wantIs(t, "P14.2: the end", a, adjacent.Loading, true, opts, head(5, 1))
	}
}

// TestFits: each thing that makes a description not fit, by itself, for both.
func TestFits(t *testing.T) {
	for _, x := range []struct {
		what  string
		spoil func(p *api.DDBody)
		fits  bool
	}{
		{"nothing", func(p *api.DDBody) {}, true},
		{"M", func(p *api.DDBody) { p.Flags ^= 2 }, true},
		{"another flag", func(p *api.DDBody) { p.Flags |= 0xF8 }, true},
		{"another MTU", func(p *api.DDBody) { p.MTU = 9000 }, true},
		{"I", func(p *api.DDBody) { p.Flags |= 4 }, false},
		{"I and M", func(p *api.DDBody) { p.Flags |= 6 }, false},
		{"MS", func(p *api.DDBody) { p.Flags ^= 1 }, false},
		{"an option more", func(p *api.DDBody) { p.Opts |= 0x40 }, false},
		{"an option less", func(p *api.DDBody) { p.Opts = 0 }, false},
		{"the number behind", func(p *api.DDBody) { p.Seq++ }, false},
		{"the number ahead", func(p *api.DDBody) { p.Seq-- }, false},
		{"a number far away", func(p *api.DDBody) { p.Seq += 1 << 16 }, false},
	} {
		a := led(t)
		p := dd(1, 41, heads(9, 2)...)
		x.spoil(&p)
		out, e := a.Describe(p, nil)
		wantFits(t, "P14.2: no master: "+x.what, a, x.fits, out, e, 41)
		a = leading(t)
		p = dd(0, 101, heads(9, 2)...)
		x.spoil(&p)
		out, e = a.Describe(p, nil)
		wantFits(t, "P14.2: master: "+x.what, a, x.fits, out, e, 102)
	}
}

// wantFits: taken, or all begins anew with that number.
func wantFits(t *testing.T, what string, a *adjacent.Adjacency, fits bool, out []adjacent.Out, e api.Errno, anew uint32) {
	t.Helper()
	if fits {
		if e != api.OK || a.State() == adjacent.Start || len(a.Wants()) != 2 {
			t.Errorf("%s: not taken: %d", what, e)
		}
		return
	}
	if e != api.ErrSeq {
		t.Errorf("%s: %d; want ErrSeq", what, e)
	}
	wantOut(t, what, out, told(7, anew))
	wantIs(t, what, a, adjacent.Start, false, 0)
}

// TestTypes: each bit of Types, and types that have none, in Start and in Exchange.
func TestTypes(t *testing.T) {
	for kind := range 256 {
		for bit := -1; bit < 16; bit++ {
			c, d := low(), high()
			if c.Types = 0; bit >= 0 {
				c.Types = 1 << bit
			}
			d.Types = c.Types
			h := api.Head{Type: uint8(kind), ID: 4}
			may := kind == bit
			a := made(t, c)
			wantDescribe(t, "P14.2", a, dd(7, 40), []api.Head{h}, api.OK, told(0, 40, h))
			b := made(t, d)
			if !may {
				wantDescribe(t, "P14.2: a type that may not be", a, dd(1, 41, h), nil, api.ErrSeq, told(7, 41))
				wantDescribe(t, "P14.2: a type that may not be, in Start", b, dd(2, 100, h), nil, api.ErrSeq, told(7, 101))
				wantIs(t, "P14.2: a type that may not be, in Start", b, adjacent.Start, false, 0)
				continue
			}
			wantDescribe(t, "P14.2: a type that may be", a, dd(1, 41, h), nil, api.OK, told(0, 41), asks(h))
			wantDescribe(t, "P14.2: a type that may be, in Start", b, dd(2, 100, h), nil, api.OK, told(1, 101))
			wantIs(t, "P14.2: a type that may be, in Start", b, adjacent.Exchange, true, 2, h)
		}
	}
	c := high()
	c.Types = 1 << 1
	bad := append(heads(3, 4), api.Head{Type: 2})
	a := made(t, c)
	wantDescribe(t, "P14.2: one of many", a, dd(2, 100, bad...), nil, api.ErrSeq, told(7, 101))
	wantDescribe(t, "P14.2: with the next number", a, dd(2, 101), nil, api.OK, told(1, 102))
	wantDescribe(t, "P14.2: one of many", a, dd(2, 102, bad...), nil, api.ErrSeq, told(7, 103))
	wantIs(t, "P14.2: one of many", a, adjacent.Start, false, 0)
	wantDescribe(t, "P14.2: none would be taken", a, dd(2, 102, bad...), nil, api.ErrSeq)
	wantDescribe(t, "P14.2: none would be taken", a, dd(7, 103, bad...), nil, api.ErrSeq)
}

// TestTheSameAgain: what was taken last, in each state behind Start; its heads and its MTU are not asked.
func TestTheSameAgain(t *testing.T) {
	own := heads(50, 40)
	a := made(t, low())
	wantDescribe(t, "P14.2", a, dd(7, 40), own, api.OK, told(2, 40, own[:16]...))
	for range 3 {
		wantDescribe(t, "P14.2: the first again", a, dd(7, 40, heads(1, 3)...), nil, api.OK, told(2, 40, own[:16]...))
	}
	wantDescribe(t, "P14.2", a, dd(3, 41, heads(1, 2)...), nil, api.OK, told(2, 41, own[16:32]...))
	wantDescribe(t, "P14.2: again", a, dd(3, 41), nil, api.OK, told(2, 41, own[16:32]...))
	wantDescribe(t, "P14.2", a, dd(1, 42), nil, api.OK, told(0, 42, own[32:]...), asks(heads(1, 2)...))
	p := dd(1, 42, heads(7, 7)...)
	p.MTU = 9
	wantDescribe(t, "P14.2: again, Loading", a, p, nil, api.OK, told(0, 42, own[32:]...))
	wantIs(t, "P14.2: again, Loading", a, adjacent.Loading, false, 2, heads(1, 2)...)
	a.Got(head(1, 1))
	a.Got(head(2, 1))
	wantDescribe(t, "P14.2: again, Full", a, p, nil, api.OK, told(0, 42, own[32:]...))
	wantIs(t, "P14.2: again, Full", a, adjacent.Full, false, 2)

	a = made(t, high())
	wantDescribe(t, "P14.2", a, dd(2, 100, head(1, 1)), own[:3], api.OK, told(1, 101, own[:3]...))
	wantDescribe(t, "P14.2: a master, again", a, dd(2, 100, head(9, 1)), nil, api.OK)
	wantIs(t, "P14.2: a master, again", a, adjacent.Exchange, true, 2, head(1, 1))
	wantDescribe(t, "P14.2", a, dd(0, 101), own[:3], api.OK, asks(head(1, 1)))
	wantDescribe(t, "P14.2: a master, again, Loading", a, dd(0, 101), nil, api.OK)
	wantIs(t, "P14.2: a master, again, Loading", a, adjacent.Loading, true, 2, head(1, 1))
	a.Got(head(1, 1))
	wantDescribe(t, "P14.2: a master, again, Full", a, dd(0, 101), nil, api.OK)
	wantIs(t, "P14.2: a master, again, Full", a, adjacent.Full, true, 2)
}

// TestNotTheSame: in Loading and Full all but the last one again begins anew, even what would fit in Exchange.
func TestNotTheSame(t *testing.T) {
	for _, p := range []api.DDBody{dd(1, 42), dd(3, 41), dd(0, 41), dd(1, 40), dd(7, 40), dd(7, 41), {Flags: 1, Seq: 41}, {Opts: 0x42, Flags: 1, Seq: 41}, dd(9, 41)} {
		for what, a := range map[string]*adjacent.Adjacency{"Loading": loading(t, heads(4, 3)...), "Full": full(t)} {
			wantDescribe(t, "P14.2: "+what, a, p, nil, api.ErrSeq, told(7, 42))
			wantIs(t, "P14.2: "+what, a, adjacent.Start, false, 0)
		}
	}
	for _, p := range []api.DDBody{dd(0, 102), dd(2, 101), dd(1, 101), dd(0, 100), dd(7, 101), {Seq: 101}} {
		a := fullMaster(t)
		wantDescribe(t, "P14.2: a master, Full", a, p, nil, api.ErrSeq, told(7, 102))
		wantIs(t, "P14.2: a master, Full", a, adjacent.Start, false, 0)
	}
}

// TestNumbersGoRound: the last number is followed by 0.
func TestNumbersGoRound(t *testing.T) {
	const last = math.MaxUint32
	a := made(t, low())
	wantDescribe(t, "P14.2", a, dd(7, last), nil, api.OK, told(0, last))
	wantDescribe(t, "P14.2: going round", a, dd(1, 0), nil, api.OK, told(0, 0))
	wantIs(t, "P14.2: going round", a, adjacent.Full, false, 2)
	c := high()
	c.Seq = last
	a = made(t, c)
	wantDescribe(t, "P14.2: going round, master", a, dd(0, last), nil, api.OK, told(1, 0))
	wantDescribe(t, "P14.2: going round, master", a, dd(0, 0), nil, api.OK)
	wantIs(t, "P14.2: going round, master", a, adjacent.Full, true, 2)
	a = made(t, c)
	wantOut(t, "P14.4: going round", a.Anew(), told(7, 0))
}

// TestPerPacket: as many heads as there may be, edge by edge, told by both, till all is told.
func TestPerPacket(t *testing.T) {
	for _, n := range []int{0, 1, 15, 16, 17, 31, 32, 33, 100} {
		own := heads(50, n)
		a, b := made(t, low()), made(t, high())
		p, number := dd(7, 40), uint32(40)
		for rest := own; ; {
			here, more := rest[:min(len(rest), 16)], uint8(0)
			if rest = rest[len(here):]; len(rest) > 0 {
				more = 2
			}
			wantDescribe(t, "P14.2: no master", a, p, own, api.OK, told(more, number, here...))
			wantDescribe(t, "P14.2: master", b, dd(2, number+60), own, api.OK, told(more|1, number+61, here...))
			number++
			p = dd(3, number)
			if more == 0 {
				break
			}
		}
		wantDescribe(t, "P14.2: no master, no more", a, dd(3, number), own, api.OK, told(0, number))
		wantDescribe(t, "P14.2: master, no more", b, dd(2, number+60), own, api.OK, told(1, number+61))
		wantDescribe(t, "P14.2: no master, the end", a, dd(1, number+1), own, api.OK, told(0, number+1))
		wantDescribe(t, "P14.2: master, the end", b, dd(0, number+61), own, api.OK)
		wantIs(t, "P14.2: the end", a, adjacent.Full, false, 2)
		wantIs(t, "P14.2: the end", b, adjacent.Full, true, 2)
	}
}

// TestEnd: who ends the exchange when: both must have said all.
func TestEnd(t *testing.T) {
	own := heads(50, 17)
	a := led(t, own...)
	wantDescribe(t, "P14.2: the last of own", a, dd(1, 41), nil, api.OK, told(0, 41, own[16]))
	wantIs(t, "P14.2: the last of own", a, adjacent.Full, false, 2)
	a = led(t, heads(50, 33)...)
	wantDescribe(t, "P14.2: more of own", a, dd(1, 41), nil, api.OK, told(2, 41, heads(66, 16)...))
	wantIs(t, "P14.2: more of own", a, adjacent.Exchange, false, 2)
	a = led(t)
	wantDescribe(t, "P14.2: more of the other", a, dd(3, 41), nil, api.OK, told(0, 41))
	wantIs(t, "P14.2: more of the other", a, adjacent.Exchange, false, 2)

	b := leading(t, own...)
	wantDescribe(t, "P14.2: the master had more", b, dd(0, 101), nil, api.OK, told(1, 102, own[16]))
	wantIs(t, "P14.2: the master had more", b, adjacent.Exchange, true, 2)
	wantDescribe(t, "P14.2: the other has more", b, dd(2, 102), nil, api.OK, told(1, 103))
	wantIs(t, "P14.2: the other has more", b, adjacent.Exchange, true, 2)
	wantDescribe(t, "P14.2: none has", b, dd(0, 103), nil, api.OK)
	wantIs(t, "P14.2: none has", b, adjacent.Full, true, 2)
}

// TestLeft: what is left is what own was when the exchange began, without what is old, in its order.
func TestLeft(t *testing.T) {
	aged := func(id uint32, age uint16) api.Head { return api.Head{Age: age, Type: 1, ID: id} }
	own := []api.Head{aged(9, 3599), aged(1, 3600), aged(8, 0), aged(2, 0x8000|3600), aged(7, 0x8000|3599), aged(3, 0xFFFF), aged(6, 3601)}
	want := []api.Head{own[0], own[2], own[4]}
	wantDescribe(t, "P14.2: old ones", made(t, low()), dd(7, 40), own, api.OK, told(0, 40, want...))
	wantDescribe(t, "P14.2: old ones, master", made(t, high()), dd(0, 100), own, api.OK, told(1, 101, want...))
	many := heads(50, 20)
	a := led(t, many...)
	wantDescribe(t, "P14.2: left of before", a, dd(1, 41), heads(90, 30), api.OK, told(0, 41, many[16:]...))
}
