package link_test

import (
	"math"
	"slices"
	"testing"

	"lodestar/api"
	"lodestar/link"
)

// heard: a Hello, from where, and of whom.
type heard struct {
	from, router uint32
	h            api.HelloBody
}

// fault: what makes a Hello wrong, and which part of it; on which links, and the error of it.
type fault struct {
	what string
	part string
	e    api.Errno
	on   func(link.Config) bool
	set  func(*heard)
}

func everywhere(link.Config) bool { return true }

func faults() []fault {
	wide := func(c link.Config) bool { return !line(c) }
	onBroadcast := func(c link.Config) bool { return c.Type == link.Broadcast }
	onVirtual := func(c link.Config) bool { return c.Type == link.Virtual }
	return []fault{
		{"Interval", "Interval", api.ErrTimes, everywhere, func(x *heard) { x.h.Interval = 11 }},
		{"Interval 0", "Interval", api.ErrTimes, everywhere, func(x *heard) { x.h.Interval = 0 }},
		{"Dead", "Dead", api.ErrTimes, everywhere, func(x *heard) { x.h.Dead = 39 }},
		{"Dead past 16 bits", "Dead", api.ErrTimes, everywhere, func(x *heard) { x.h.Dead += 1 << 16 }},
		{"Mask", "Mask", api.ErrMask, wide, func(x *heard) { x.h.Mask <<= 1 }},
		{"Mask 0", "Mask", api.ErrMask, wide, func(x *heard) { x.h.Mask = 0 }},
		{"no OptE", "Opts", api.ErrOptions, everywhere, func(x *heard) { x.h.Opts = 0 }},
		{"OptNP", "Opts", api.ErrOptions, everywhere, func(x *heard) { x.h.Opts |= api.OptNP }},
		{"router 0", "router", api.ErrSource, everywhere, func(x *heard) { x.router = 0 }},
		{"from 0", "from", api.ErrSource, everywhere, func(x *heard) { x.from = 0 }},
		{"its own Router", "router", api.ErrSource, everywhere, func(x *heard) { x.router = 1 }},
		{"its own Addr", "from", api.ErrSource, func(c link.Config) bool { return c.Type != link.Virtual }, func(x *heard) { x.from = self }},
		{"outside Net", "from", api.ErrSource, onBroadcast, func(x *heard) { x.from = net + 256 }},
		{"another router than Remote", "router", api.ErrPeer, onVirtual, func(x *heard) { x.router = 3 }},
		{"no peer", "from", api.ErrPeer, peers, func(x *heard) { x.from = net + 3 }},
	}
}

// TestFaults: each by itself, and each two: the first in the chapter's order is told; nothing changes.
func TestFaults(t *testing.T) {
	rank := []api.Errno{api.ErrState, api.ErrTimes, api.ErrMask, api.ErrOptions, api.ErrSource, api.ErrPeer, api.ErrFull}
	first := func(a, b api.Errno) api.Errno { return rank[min(slices.Index(rank, a), slices.Index(rank, b))] }
	for what, c := range kinds() {
		l, w := begun(t, c), &words{c: c}
		w.up()
		sound := heard{two, 2, hello(c, 0, 0)}
		wantHear(t, l, two, 2, sound.h, w.refuses(two, 2, sound.h))
		w.hear(two, 2, sound.h)
		for _, a := range faults() {
			if !a.on(c) {
				continue
			}
			for _, b := range faults() {
				x, want := sound, a.e
				a.set(&x)
				if b.on(c) && b.part != a.part {
					b.set(&x)
					want = first(a.e, b.e)
				}
				wantHear(t, l, x.from, x.router, x.h, want)
				wantSame(t, what+": "+a.what+", "+b.what, l, w)
			}
		}
		l.Down()
		for _, a := range faults() {
			x := sound
			a.set(&x)
			wantHear(t, l, x.from, x.router, x.h, api.ErrState)
			wantState(t, l, link.Down, 0, 0)
		}
	}
}

// TestNoFaults: what is not asked.
func TestNoFaults(t *testing.T) {
	for what, c := range kinds() {
		for _, x := range []struct {
			what string
			on   func(link.Config) bool
			set  func(*heard)
		}{
			{"another Mask of a line", line, func(x *heard) { x.h.Mask = 0x12345678 }},
			{"other Opts", everywhere, func(x *heard) { x.h.Opts |= 0xF5 }},
			{"a great Priority", everywhere, func(x *heard) { x.h.Priority = 255 }},
			{"any chiefs", everywhere, func(x *heard) { x.h.DR, x.h.BDR = 9, math.MaxUint32 }},
			{"from anywhere", line, func(x *heard) { x.from = math.MaxUint32 }},
			{"any router", func(c link.Config) bool { return c.Type != link.Virtual }, func(x *heard) { x.router = math.MaxUint32 }},
			{"many neighbours, doubled ones, too", everywhere, func(x *heard) { x.h.Neighbors = slices.Repeat([]uint32{0, 2, 1}, 1000) }},
		} {
			if !x.on(c) {
				continue
			}
			l := begun(t, c)
			h := heard{two, 2, hello(c, 0, 0)}
			x.set(&h)
			wantHear(t, l, h.from, h.router, h.h, api.OK)
			n := l.Neighbours()
			n[0].Wanted = false
			want := link.Neighbour{Router: h.router, Addr: h.from, State: link.TwoWay, Priority: h.h.Priority, DR: h.h.DR, BDR: h.h.BDR, Opts: h.h.Opts, Left: 40}
			if len(n) != 1 || n[0] != want {
				t.Errorf("P13.5: %s: %s: %v; want %v", what, x.what, n, want)
			}
		}
	}
}

// TestOptions: both bits are held against the link's, whatever these are.
func TestOptions(t *testing.T) {
	for own := range 256 {
		c := point(false)
		c.Opts = uint8(own)
		l := begun(t, c)
		for opts := range 256 {
			h := hello(c, 0, 0)
			h.Opts = uint8(opts)
			want := api.OK
			if own&2 != opts&2 || own&8 != opts&8 {
				want = api.ErrOptions
			}
			wantHear(t, l, two, 2, h, want)
		}
	}
}

// TestWithinNet: of Broadcast alone, at the edges of Net.
func TestWithinNet(t *testing.T) {
	c := broadcast()
	c.Net = api.Prefix{Addr: net + 16, Bits: 28}
	c.Addr = net + 20
	for from, want := range map[uint32]api.Errno{net + 15: api.ErrSource, net + 16: api.OK, net + 31: api.OK, net + 32: api.ErrSource, net + 20: api.ErrSource} {
		wantHear(t, begun(t, c), from, 2, hello(c, 0, 0), want)
	}
	c.Net, c.Addr = api.Prefix{}, 5
	for _, from := range []uint32{1, 4, 6, math.MaxUint32} {
		wantHear(t, begun(t, c), from, 2, hello(c, 0, 0), api.OK)
	}
	c.Type, c.Net, c.Addr = link.Point, api.Prefix{Addr: 4, Bits: 32}, 4
	wantHear(t, begun(t, c), 99, 2, hello(c, 0, 0), api.OK)
	n := nbma(1, peer(99, 1))
	wantHear(t, begun(t, n), 99, 2, hello(n, 0, 0), api.OK)
}

// TestFullHouse: MaxRouters neighbours of a Broadcast link, and one more; those that are known are still heard.
func TestFullHouse(t *testing.T) {
	c := broadcast()
	l := begun(t, c)
	for i := range uint32(api.MaxRouters) {
		wantHear(t, l, net+200-i, 2+i, deaf(hello(c, 0, 0)), api.OK)
	}
	for _, from := range []uint32{two, net + 201, net + 255, net} {
		wantHear(t, l, from, 2, hello(c, 0, 0), api.ErrFull)
	}
	wantHear(t, l, net+256, 2, hello(c, 0, 0), api.ErrSource)
	if n := l.Neighbours(); len(n) != 64 || n[0].Addr != net+137 || n[63].Addr != net+200 {
		t.Fatalf("P13.5: neighbours %v", n)
	}
	l.Tick()
	wantHear(t, l, net+150, 999, hello(c, 0, 0), api.OK)
	wantHear(t, l, two, 2, hello(c, 0, 0), api.ErrFull)
	pass(l, 39)
	wantHear(t, l, two, 2, hello(c, 0, 0), api.OK) // all but one are lost: there is room
	n := l.Neighbours()
	if len(n) != 2 || n[0].Addr != two || n[1].Router != 999 || n[1].Left != 1 {
		t.Errorf("P13.5: neighbours %v", n)
	}
	full := nbma(1, many(64)...)
	l = begun(t, full)
	for _, p := range full.Peers {
		wantHear(t, l, p.Addr, p.Addr, hello(full, 0, 0), api.OK)
	}
	wantHear(t, l, net+66, 2, hello(full, 0, 0), api.ErrPeer)
}

// TestWhoIsWho: by the address where there may be many, by the router where there is one.
func TestWhoIsWho(t *testing.T) {
	c := broadcast()
	l := begun(t, c)
	wantHear(t, l, six, 2, deaf(hello(c, 0, 0)), api.OK)
	wantHear(t, l, two, 2, hello(c, 0, 0), api.OK)
	wantHear(t, l, six, 9, deaf(prior(hello(c, 7, 8), 3)), api.OK)
	wantNeighbours(t, l,
		link.Neighbour{Router: 2, Addr: two, State: link.TwoWay, Priority: 1, Opts: api.OptE, Left: 40},
		link.Neighbour{Router: 9, Addr: six, State: link.Heard, Priority: 3, DR: 7, BDR: 8, Opts: api.OptE, Left: 40})

	p := point(false)
	l = begun(t, p)
	wantHear(t, l, six, 2, hello(p, 0, 0), api.OK)
	l.Tick()
	wantHear(t, l, two, 2, deaf(hello(p, 0, 0)), api.OK)
	wantNeighbours(t, l, link.Neighbour{Router: 2, Addr: two, State: link.Heard, Priority: 1, Opts: api.OptE, Left: 40})
	wantHear(t, l, two, 3, hello(p, 0, 0), api.OK)
	wantNeighbours(t, l, link.Neighbour{Router: 3, Addr: two, State: link.TwoWay, Priority: 1, Opts: api.OptE, Left: 40, Wanted: true})

	m := multi(peer(six, 9), peer(two, 8))
	l = begun(t, m)
	wantHear(t, l, two, 2, hello(m, 0, 0), api.OK)
	wantHear(t, l, six, 2, hello(m, 0, 0), api.OK)
	wantNeighbours(t, l,
		link.Neighbour{Router: 2, Addr: six, State: link.TwoWay, Priority: 1, Opts: api.OptE, Left: 40, Wanted: true},
		link.Neighbour{Router: 2, Addr: two, State: link.TwoWay, Priority: 1, Opts: api.OptE, Left: 40, Wanted: true})

	v := virtual(false)
	l = begun(t, v)
	wantHear(t, l, six, 2, hello(v, 0, 0), api.OK)
	wantHear(t, l, two, 2, hello(v, 0, 0), api.OK)
	wantNeighbours(t, l, link.Neighbour{Router: 2, Addr: two, State: link.TwoWay, Priority: 1, Opts: api.OptE, Left: 40, Wanted: true})
}

// TestRisingAddresses: whatever way they come.
func TestRisingAddresses(t *testing.T) {
	c := broadcast()
	c.Net, c.Addr = api.Prefix{}, 5
	l := begun(t, c)
	var want []uint32
	for _, from := range []uint32{1 << 31, 9, math.MaxUint32, 1, 1<<31 - 1, 10, 4, math.MaxUint32 - 1, 6} {
		wantHear(t, l, from, 2, hello(c, 0, 0), api.OK)
		want = append(want, from)
		slices.Sort(want)
		var got []uint32
		for _, n := range l.Neighbours() {
			got = append(got, n.Addr)
		}
		if !slices.Equal(got, want) {
			t.Fatalf("P13.5: in the order %v; want %v", got, want)
		}
	}
}

// TestWaitingIsCutShort: by one that is TwoWay and names itself BDR, or DR and no BDR.
func TestWaitingIsCutShort(t *testing.T) {
	c := broadcast()
	for _, x := range []struct {
		h     api.HelloBody
		state uint8
		dr    uint32
		bdr   uint32
	}{
		{hello(c, 0, 0), link.Waiting, 0, 0},
		{hello(c, two, 0), link.Backup, two, self},
		{hello(c, 0, two), link.Other, two, two},
		{hello(c, two, two), link.Backup, two, self},
		{hello(c, net+9, two), link.Other, two, two},
		{hello(c, two, net+9), link.Waiting, 0, 0},
		{hello(c, two, self), link.Waiting, 0, 0},
		{hello(c, self, 0), link.Waiting, 0, 0},
		{hello(c, 2, 0), link.Waiting, 0, 0},
		{deaf(hello(c, two, 0)), link.Waiting, 0, 0},
		{deaf(hello(c, 0, two)), link.Waiting, 0, 0},
		{prior(hello(c, two, 0), 0), link.Chief, self, 0},
	} {
		l := begun(t, c)
		wantHear(t, l, two, 2, x.h, api.OK)
		if dr, bdr := l.Chiefs(); l.State() != x.state || dr != x.dr || bdr != x.bdr {
			t.Errorf("P13.5: waiting, heard %v: %d, %x, %x; want %d, %x, %x", x.h, l.State(), dr, bdr, x.state, x.dr, x.bdr)
		}
	}
	// It is what was heard now that counts: not another one that is known, and no second Waiting.
	l := begun(t, c)
	wantHear(t, l, two, 2, deaf(hello(c, two, 0)), api.OK)
	wantHear(t, l, net+3, 3, hello(c, 0, 0), api.OK)
	wantState(t, l, link.Waiting, 0, 0)
	wantHear(t, l, net+3, 3, hello(c, net+3, 0), api.OK)
	wantState(t, l, link.Backup, net+3, self)
	pass(l, 39)
	wantState(t, l, link.Backup, net+3, self)
}

// TestWhatElects: an election is seen by a peer that is Gone: it is tried then, if the link leads.
func TestWhatElects(t *testing.T) {
	c := nbma(200, peer(two, 1), peer(six, 0))
	c.Dead = 3
	base := hello(c, 0, two)
	for _, x := range []struct {
		what   string
		before *api.HelloBody
		router uint32
		now    api.HelloBody
		elects bool
	}{
		{"heard for the first time", nil, 2, deaf(base), false},
		{"TwoWay at once", nil, 2, base, true},
		{"the same again", &base, 2, base, false},
		{"no more TwoWay", &base, 2, deaf(base), true},
		{"another Router", &base, 3, base, true},
		{"another Priority", &base, 2, prior(base, 2), true},
		{"Priority 0", &base, 2, prior(base, 0), true},
		{"names itself DR", &base, 2, hello(c, two, two), true},
		{"names itself BDR no more", &base, 2, hello(c, 0, 0), true},
		{"names another DR", &base, 2, hello(c, self, two), false},
		{"names another one BDR", &base, 2, hello(c, 0, six), true},
		{"other Opts", &base, 2, opts(base, 0xF7), false},
		{"others of its Neighbors", &base, 2, beside(base, 1, 5, 6), false},
	} {
		l := begun(t, c)
		pass(l, 3)
		wantState(t, l, link.Chief, self, 0)
		if x.before != nil {
			wantHear(t, l, two, 2, *x.before, api.OK)
		}
		for range 3 {
			l.Tick()
			if x.before != nil {
				wantHear(t, l, two, 2, *x.before, api.OK)
			}
		}
		if stateOf(l, six) != link.Gone {
			t.Fatalf("P13.4: %s: %v", x.what, l.Neighbours())
		}
		wantHear(t, l, two, x.router, x.now, api.OK)
		if tried := stateOf(l, six) == link.Attempt; tried != x.elects {
			t.Errorf("P13.5: %s: elected %v; want %v", x.what, tried, x.elects)
		}
	}
	// Of one that is but Heard, nothing elects.
	l := begun(t, c)
	pass(l, 6)
	for _, h := range []api.HelloBody{deaf(base), prior(deaf(base), 9), deaf(hello(c, two, 0)), deaf(hello(c, 0, 0))} {
		wantHear(t, l, two, 2, h, api.OK)
		wantHear(t, l, two, 3, h, api.OK)
	}
	if stateOf(l, six) != link.Gone {
		t.Errorf("P13.5: elected by one in Heard: %v", l.Neighbours())
	}
}

func opts(h api.HelloBody, o uint8) api.HelloBody {
	h.Opts = h.Opts&0x0A | o&^0x0A
	return h
}

func beside(h api.HelloBody, l ...uint32) api.HelloBody {
	h.Neighbors = l
	return h
}

// TestElection: the link's own voice, with the DR and BDR that it has; those that are TwoWay alone.
func TestElection(t *testing.T) {
	c := broadcast()
	l := begun(t, c)
	pass(l, 40)
	wantState(t, l, link.Chief, self, 0)
	// It keeps what it is, though one comes that is ahead.
	wantHear(t, l, two, 2, prior(hello(c, 0, 0), 9), api.OK)
	wantState(t, l, link.Chief, self, two)
	wantHear(t, l, net+3, 3, prior(hello(c, self, two), 10), api.OK)
	wantState(t, l, link.Chief, self, net+3) // two does not name itself yet
	wantHear(t, l, two, 2, prior(hello(c, self, two), 9), api.OK)
	wantState(t, l, link.Chief, self, two)
	// Another DR, of a higher Priority: it gives way.
	wantHear(t, l, two, 2, prior(hello(c, two, 0), 9), api.OK)
	wantState(t, l, link.Other, two, net+3)
	// One that no longer hears it has no voice.
	wantHear(t, l, two, 2, deaf(prior(hello(c, two, 0), 9)), api.OK)
	wantState(t, l, link.Other, net+3, net+3)
}

// TestAnswers: of NBMA without Priority, to one that may lead, and does not.
func TestAnswers(t *testing.T) {
	c := nbma(0, peer(six, 0), peer(two, 1), peer(net+4, 0))
	l := begun(t, c)
	wantTo(t, "P13.5: it is DR behind the election", wantHear(t, l, two, 2, hello(c, 0, 0), api.OK), nil)
	wantState(t, l, link.Other, two, two)
	wantTo(t, "P13.5: of Priority 0", wantHear(t, l, six, 6, prior(hello(c, 0, 0), 0), api.OK), nil)
	wantTo(t, "P13.5: but Heard", wantHear(t, l, six, 6, deaf(hello(c, 0, 0)), api.OK), []uint32{6, 2}, six)
	s := wantHear(t, l, net+4, 1000, deaf(prior(hello(c, 0, 0), 255)), api.OK)
	want := api.HelloBody{Mask: mask(24), Interval: 10, Opts: api.OptE, Dead: 40, DR: two, BDR: two, Neighbors: []uint32{6, 2, 1000}}
	wantSends(t, "P13.5: as in a round", s, []link.Send{{To: net + 4, Hello: want}})
	wantHear(t, l, two, 2, hello(c, two, 0), api.OK)
	wantTo(t, "P13.5: it is BDR behind the election", wantHear(t, l, net+4, 1000, hello(c, 0, net+4), api.OK), nil)
	wantState(t, l, link.Other, two, net+4)
	wantTo(t, "P13.5: neither DR nor BDR", wantHear(t, l, six, 6, hello(c, 0, 0), api.OK), []uint32{6, 2, 1000}, six)

	for what, c := range kinds() { // where it may lead, or is not NBMA
		if c.Type != link.NBMA {
			c.Priority = 0
		}
		l := begun(t, c)
		for _, h := range []api.HelloBody{hello(c, 0, 0), deaf(hello(c, 0, 0)), prior(deaf(hello(c, 0, 0)), 9)} {
			wantTo(t, "P13.5: "+what, wantHear(t, l, two, 2, h, api.OK), nil)
		}
	}
}
