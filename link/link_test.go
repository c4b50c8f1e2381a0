package link_test

import (
	"math"
	"slices"
	"testing"

	"lodestar/api"
	"lodestar/link"
)

const (
	all  = api.AllRouters
	self = net + 1 // the link's own address
	two  = net + 2
	six  = net + 6

	past = math.MaxUint16 + 10 // more ticks than there are between any two rounds, or polls
)

// one right config of each type: router 1 at 10.0.0.1.
func broadcast() link.Config {
	return link.Config{Type: link.Broadcast, Router: 1, Net: api.Prefix{Addr: net, Bits: 24}, Addr: self, Opts: api.OptE, Hello: 10, Dead: 40, Priority: 1}
}

func nbma(own uint8, peers ...link.Peer) link.Config {
	c := broadcast()
	c.Type, c.Priority, c.Poll, c.Peers = link.NBMA, own, 100, peers
	return c
}

func multi(peers ...link.Peer) link.Config {
	c := nbma(0, peers...)
	c.Type = link.Multi
	return c
}

func point(demand bool) link.Config {
	c := broadcast()
	c.Type, c.Priority, c.Demand = link.Point, 0, demand
	return c
}

func virtual(demand bool) link.Config {
	return link.Config{Type: link.Virtual, Router: 1, Opts: api.OptE, Hello: 10, Dead: 40, Demand: demand, Remote: 2}
}

func peer(addr uint32, priority uint8) link.Peer { return link.Peer{Addr: addr, Priority: priority} }

func kinds() map[string]link.Config {
	return map[string]link.Config{
		"Broadcast": broadcast(), "NBMA": nbma(1, peer(two, 1)), "Multi": multi(peer(two, 1)), "Point": point(false), "Virtual": virtual(false),
	}
}

func made(t *testing.T, c link.Config) *link.Link {
	t.Helper()
	l, e := link.New(c)
	if l == nil || e != api.OK {
		t.Fatalf("P13.1: New(%v): %v, %d", c, l, e)
	}
	return l
}

// begun: a link of that config that is up.
func begun(t *testing.T, c link.Config) *link.Link {
	t.Helper()
	l := made(t, c)
	l.Up()
	return l
}

// hello: of a neighbour of Priority 1 that hears router 1, as the links above take it.
func hello(c link.Config, dr, bdr uint32) api.HelloBody {
	return api.HelloBody{Mask: mask(c.Net.Bits), Interval: c.Hello, Opts: c.Opts, Priority: 1, Dead: c.Dead, DR: dr, BDR: bdr, Neighbors: []uint32{7, 1}}
}

// deaf: the Hello of one that does not hear router 1.
func deaf(h api.HelloBody) api.HelloBody {
	h.Neighbors = []uint32{7}
	return h
}

func prior(h api.HelloBody, priority uint8) api.HelloBody {
	h.Priority = priority
	return h
}

func wantHear(t *testing.T, l *link.Link, from, router uint32, h api.HelloBody, want api.Errno) []link.Send {
	t.Helper()
	s, e := l.Hear(from, router, h)
	if e != want || e != api.OK && len(s) > 0 {
		t.Fatalf("P13.5: Hear(%x, %d, %v): %v, %d; want %d", from, router, h, s, e, want)
	}
	return s
}

func wantState(t *testing.T, l *link.Link, state uint8, dr, bdr uint32) {
	t.Helper()
	if d, b := l.Chiefs(); l.State() != state || d != dr || b != bdr {
		t.Fatalf("P13.7: state %d, chiefs %x, %x; want %d, %x, %x", l.State(), d, b, state, dr, bdr)
	}
}

func wantNeighbours(t *testing.T, l *link.Link, want ...link.Neighbour) {
	t.Helper()
	if got := l.Neighbours(); !slices.Equal(got, want) {
		t.Fatalf("P13.7: neighbours\n%v; want\n%v", got, want)
	}
}

// wantTo: to whom these go, all with these neighbours.
func wantTo(t *testing.T, what string, s []link.Send, neighbors []uint32, to ...uint32) {
	t.Helper()
	var got []uint32
	for _, x := range s {
		got = append(got, x.To)
		if !slices.Equal(x.Hello.Neighbors, neighbors) {
			t.Fatalf("%s: neighbours %v; want %v", what, x.Hello.Neighbors, neighbors)
		}
	}
	if !slices.Equal(got, to) {
		t.Fatalf("%s: sent to %x; want %x", what, got, to)
	}
}

// pass: so many ticks; what was sent at the last one.
func pass(l *link.Link, ticks int) []link.Send {
	var s []link.Send
	for range ticks {
		s = l.Tick()
	}
	return s
}

func stateOf(l *link.Link, addr uint32) uint8 {
	for _, n := range l.Neighbours() {
		if n.Addr == addr {
			return n.State
		}
	}
	return 255
}

func TestExamples(t *testing.T) {
	l := made(t, broadcast())
	wantTo(t, "P13.2: Up", l.Up(), nil, all)
	wantState(t, l, link.Waiting, 0, 0)
	wantTo(t, "P13.5", wantHear(t, l, two, 2, hello(broadcast(), 0, 0), api.OK), nil)
	wantState(t, l, link.Waiting, 0, 0)
	wantNeighbours(t, l, link.Neighbour{Router: 2, Addr: two, State: link.TwoWay, Priority: 1, Opts: api.OptE, Left: 40})
	for i := 1; i <= 40; i++ {
		s := l.Tick()
		switch {
		case i == 40:
			wantTo(t, "P13.4: the 40th", s, nil, all)
			if s[0].Hello.DR != self || s[0].Hello.BDR != 0 {
				t.Errorf("P13.4: the 40th names %x, %x", s[0].Hello.DR, s[0].Hello.BDR)
			}
		case i%10 == 0:
			wantTo(t, "P13.4: each 10th", s, []uint32{2}, all)
		default:
			wantTo(t, "P13.4", s, nil)
		}
	}
	wantState(t, l, link.Chief, self, 0)
	wantNeighbours(t, l)
	a, b := hello(broadcast(), 0, 0), hello(broadcast(), 0, 0)
	a.Interval, b.Mask = 9, mask(25)
	wantHear(t, l, two, 2, a, api.ErrTimes)
	wantHear(t, l, two, 2, b, api.ErrMask)
	wantHear(t, l, net+0x102, 2, hello(broadcast(), 0, 0), api.ErrSource)
	wantHear(t, l, two, 1, hello(broadcast(), 0, 0), api.ErrSource)
}

// many: so many peers, none of them at 10.0.0.1.
func many(n int) []link.Peer {
	var l []link.Peer
	for i := range n {
		l = append(l, peer(net+uint32(i+2), uint8(i%2)))
	}
	return l
}

func TestNew(t *testing.T) {
	for what, c := range kinds() {
		for _, x := range []struct {
			what string
			may  bool
			set  func(*link.Config)
		}{
			{"as it is", true, func(*link.Config) {}},
			{"Type 5", false, func(c *link.Config) { c.Type = 5 }},
			{"Type 255", false, func(c *link.Config) { c.Type = 255 }},
			{"Router 0", false, func(c *link.Config) { c.Router = 0 }},
			{"the greatest Router", true, func(c *link.Config) { c.Router = math.MaxUint32 }},
			{"Hello 0", false, func(c *link.Config) { c.Hello = 0 }},
			{"Hello 1", true, func(c *link.Config) { c.Hello = 1 }},
			{"the longest Hello", true, func(c *link.Config) { c.Hello = math.MaxUint16 }},
			{"Dead 0", false, func(c *link.Config) { c.Dead = 0 }},
			{"Dead 1, below Hello", true, func(c *link.Config) { c.Dead = 1 }},
			{"the longest Dead", true, func(c *link.Config) { c.Dead = math.MaxUint32 }},
			{"Poll 0", !peers(c), func(c *link.Config) { c.Poll = 0 }},
			{"Poll 1", peers(c), func(c *link.Config) { c.Poll = 1 }},
			{"the longest Poll", peers(c), func(c *link.Config) { c.Poll = math.MaxUint16 }},
			{"any Opts", true, func(c *link.Config) { c.Opts = 255 }},
			{"any Priority", true, func(c *link.Config) { c.Priority = 255 }},
			{"Passive", c.Type != link.Virtual, func(c *link.Config) { c.Passive = true }},
			{"Demand", line(c), func(c *link.Config) { c.Demand = true }},
			{"Net of 33 bits", false, func(c *link.Config) { c.Net.Bits = 33 }},
			{"Net of 255 bits", false, func(c *link.Config) { c.Net.Bits = 255 }},
			{"Net of 32 bits", c.Type != link.Virtual, func(c *link.Config) { c.Net = api.Prefix{Addr: c.Addr, Bits: 32} }},
			{"Net of 0 bits", true, func(c *link.Config) { c.Net = api.Prefix{} }},
			{"a bit outside", false, func(c *link.Config) { c.Net.Addr |= 1 }},
			{"a bit outside, Addr itself", false, func(c *link.Config) { c.Net.Addr = self }},
			{"another Net", false, func(c *link.Config) { c.Net.Addr = net + 256 }},
			{"Net of an address alone", false, func(c *link.Config) { c.Net = api.Prefix{Addr: 1} }},
			{"Addr 0", c.Type == link.Virtual, func(c *link.Config) { c.Addr = 0 }},
			{"Addr 0 in a Net that has it", c.Type == link.Virtual, func(c *link.Config) { c.Addr, c.Net = 0, api.Prefix{} }},
			{"Addr outside Net", false, func(c *link.Config) { c.Addr = net + 256 }},
			{"the first Addr of Net", c.Type != link.Virtual, func(c *link.Config) { c.Addr = net }},
			{"the last Addr of Net", c.Type != link.Virtual, func(c *link.Config) { c.Addr = net + 255 }},
			{"Remote 0", c.Type != link.Virtual, func(c *link.Config) { c.Remote = 0 }},
			{"Remote is its Router", false, func(c *link.Config) { c.Remote = c.Router }},
			{"another Remote", c.Type == link.Virtual, func(c *link.Config) { c.Remote = 3 }},
			{"no Peers", true, func(c *link.Config) { c.Peers = nil }},
			{"Peers without elements", true, func(c *link.Config) { c.Peers = []link.Peer{} }},
			{"a peer", peers(c), func(c *link.Config) { c.Peers = many(1) }},
			{"a peer outside Net", peers(c), func(c *link.Config) { c.Peers = []link.Peer{peer(7, 0)} }},
			{"64 peers", peers(c), func(c *link.Config) { c.Peers = many(64) }},
			{"65 peers", false, func(c *link.Config) { c.Peers = many(65) }},
			{"a peer twice", false, func(c *link.Config) { c.Peers = append(many(9), peer(two, 5)) }},
			{"a peer of Addr 0", false, func(c *link.Config) { c.Peers = append(many(2), peer(0, 1)) }},
			{"a peer of its own Addr", false, func(c *link.Config) { c.Peers = append(many(2), peer(c.Addr, 1)) }},
		} {
			d := c
			x.set(&d)
			l, e := link.New(d)
			if x.may != right(d) {
				t.Fatalf("%s, %s: the words say otherwise", what, x.what)
			}
			if x.may && (l == nil || e != api.OK) || !x.may && (l != nil || e != api.ErrConfig) {
				t.Errorf("P13.1: %s, %s: %v, %d", what, x.what, l, e)
			}
			if x.may {
				wantSame(t, what+", "+x.what, l, &words{c: d})
				wantSends(t, "P13.4: of a link that is Down", l.Tick(), nil)
			}
		}
	}
	wantConfig(t, link.Config{})
}

func wantConfig(t *testing.T, c link.Config) {
	t.Helper()
	if l, e := link.New(c); l != nil || e != api.ErrConfig {
		t.Errorf("P13.1: New(%v): %v, %d", c, l, e)
	}
}

// TestUp: what each type is when it begins, and that it begins once.
func TestUp(t *testing.T) {
	five := []link.Peer{peer(six, 0), peer(two, 3), peer(net+4, 255)}
	low := broadcast()
	low.Priority = 0
	quiet := nbma(1, five...)
	quiet.Passive = true
	tried := func(addr uint32, priority uint8) link.Neighbour {
		return link.Neighbour{Addr: addr, Priority: priority, State: link.Attempt, Left: 40}
	}
	gone := func(addr uint32, priority uint8) link.Neighbour {
		return link.Neighbour{Addr: addr, Priority: priority}
	}
	for _, x := range []struct {
		what  string
		c     link.Config
		state uint8
		to    []uint32
		with  []link.Neighbour
	}{
		{"Broadcast", broadcast(), link.Waiting, []uint32{all}, nil},
		{"Broadcast of Priority 0", low, link.Other, []uint32{all}, nil},
		{"Point", point(false), link.Pair, []uint32{all}, nil},
		{"Point of Demand", point(true), link.Pair, []uint32{all}, nil},
		{"Virtual that reaches nobody", virtual(false), link.Pair, nil, nil},
		{"NBMA", nbma(1, five...), link.Waiting, []uint32{two, net + 4}, []link.Neighbour{gone(six, 0), tried(two, 3), tried(net+4, 255)}},
		{"NBMA of Priority 0", nbma(0, five...), link.Other, nil, []link.Neighbour{gone(six, 0), gone(two, 3), gone(net+4, 255)}},
		{"NBMA without peers", nbma(1), link.Waiting, nil, nil},
		{"Multi", multi(five...), link.Pair, []uint32{six, two, net + 4}, []link.Neighbour{tried(six, 0), tried(two, 3), tried(net+4, 255)}},
		{"Passive", quiet, link.Quiet, nil, nil},
	} {
		l := made(t, x.c)
		for range 3 {
			wantTo(t, "P13.2: "+x.what, l.Up(), nil, x.to...)
			wantState(t, l, x.state, 0, 0)
			wantNeighbours(t, l, x.with...)
			wantTo(t, "P13.2: "+x.what+", again", l.Up(), nil)
			wantState(t, l, x.state, 0, 0)
			l.Down()
			wantState(t, l, link.Down, 0, 0)
			wantNeighbours(t, l)
		}
	}
}

// TestDown: as New made it: all that was heard, and all times, begin anew.
func TestDown(t *testing.T) {
	for what, c := range kinds() {
		c.Dead = 15
		l, fresh := made(t, c), made(t, c)
		l.Up()
		pass(l, 7)
		wantHear(t, l, two, 2, hello(c, two, 0), api.OK)
		pass(l, 13)
		wantHear(t, l, two, 2, hello(c, two, 0), api.OK)
		l.Down()
		wantState(t, l, link.Down, 0, 0)
		wantNeighbours(t, l)
		for range past {
			wantSends(t, "P13.2: Down: "+what, l.Tick(), nil)
		}
		wantHear(t, l, two, 2, hello(c, two, 0), api.ErrState)
		wantSends(t, what, l.Up(), fresh.Up())
		for range 230 {
			wantSends(t, "P13.2: Down, and up again: "+what, l.Tick(), fresh.Tick())
			if l.State() != fresh.State() || !slices.Equal(l.Neighbours(), fresh.Neighbours()) {
				t.Fatalf("P13.2: %s: %d, %v; want %d, %v", what, l.State(), l.Neighbours(), fresh.State(), fresh.Neighbours())
			}
		}
	}
}

// TestPassive: it says and hears nothing, whatever it is.
func TestPassive(t *testing.T) {
	for what, c := range kinds() {
		if c.Type == link.Virtual {
			continue
		}
		c.Passive = true
		l := begun(t, c)
		for range past {
			wantSends(t, "P13.4: Quiet: "+what, l.Tick(), nil)
		}
		wrong := hello(c, 0, 0)
		wrong.Interval++
		wantHear(t, l, two, 2, wrong, api.ErrState)
		wantHear(t, l, two, 2, hello(c, 0, 0), api.ErrState)
		wantState(t, l, link.Quiet, 0, 0)
		wantNeighbours(t, l)
		l.Down()
		wantState(t, l, link.Down, 0, 0)
	}
}

// TestHelloOfARound: each field of it.
func TestHelloOfARound(t *testing.T) {
	c := broadcast()
	c.Net.Bits, c.Opts, c.Priority, c.Hello, c.Dead = 30, 0x4A, 9, 300, 70000
	want := api.HelloBody{Mask: 0xFFFFFFFC, Interval: 300, Opts: 0x4A, Priority: 9, Dead: 70000}
	l := made(t, c)
	wantSends(t, "P13.3", l.Up(), []link.Send{{To: all, Hello: want}})
	h := hello(c, two, 0)
	wantHear(t, l, two, 2, h, api.OK)
	wantHear(t, l, net+3, 300, deaf(h), api.OK)
	wantState(t, l, link.Backup, two, self)
	want.DR, want.BDR, want.Neighbors = two, self, []uint32{2, 300}
	wantSends(t, "P13.3", pass(l, 300), []link.Send{{To: all, Hello: want}})

	for _, demand := range []bool{false, true} {
		for _, opts := range []uint8{0, 0x20, 0x4A, 0xFF} {
			for what, c := range map[string]link.Config{"Point": point(demand), "Virtual": virtual(demand)} {
				c.Opts = opts
				l := made(t, c)
				l.Reach(7)
				want := api.HelloBody{Mask: mask(c.Net.Bits), Interval: 10, Opts: opts, Dead: 40}
				if demand {
					want.Opts |= 0x20
				}
				to := uint32(all)
				if what == "Virtual" {
					to = 7
				}
				wantSends(t, "P13.3: "+what, l.Up(), []link.Send{{To: to, Hello: want}})
			}
		}
	}
}

// TestRoutersInAHello: of all neighbours in Heard or TwoWay, in their order, whatever their routers are.
func TestRoutersInAHello(t *testing.T) {
	l := begun(t, broadcast())
	for _, x := range [][2]uint32{{net + 9, 3}, {two, 9}, {net + 200, 3}, {net + 5, math.MaxUint32}, {net, 4}} {
		wantHear(t, l, x[0], x[1], deaf(hello(broadcast(), 0, 0)), api.OK)
	}
	wantTo(t, "P13.3", pass(l, 10), []uint32{4, 9, math.MaxUint32, 3, 3}, all)

	c := multi(peer(six, 0), peer(two, 0), peer(net+4, 0), peer(7, 0))
	l = begun(t, c)
	wantHear(t, l, net+4, 4, hello(c, 0, 0), api.OK)
	wantHear(t, l, six, 6, deaf(hello(c, 0, 0)), api.OK)
	wantTo(t, "P13.3", pass(l, 10), []uint32{6, 4}, six, two, net+4, 7)
}
