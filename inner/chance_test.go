package inner_test

import (
	"bytes"
	"math/rand/v2"
	"slices"
	"testing"

	"lodestar/api"
	"lodestar/graph"
	"lodestar/inner"
	"lodestar/state"
	"lodestar/tree"
)

// pick: one of them, by chance.
func pick[T any](r *rand.Rand, l ...T) T { return l[r.IntN(len(l))] }

// rounds: how many areas by chance are tried.
func rounds() int {
	if testing.Short() {
		return 2000
	}
	return 20000
}

// plan: the links of routers, whose IDs begin with 1, and the networks that they are at.
type plan struct {
	*rand.Rand
	costs    []uint16
	links    [][]api.Link
	networks []api.State
}

func (p *plan) cost() uint16 { return pick(p.Rand, p.costs...) }

func (p *plan) data() uint32 { return uint32(p.IntN(4)) }

func (p *plan) someRouter() int { return p.IntN(len(p.links)) }

// join lays a line between two routers, seldom only one way.
func (p *plan) join(a, b int) {
	kind := pick[uint8](p.Rand, 1, 1, 1, 4)
	tell := func(from, to int) {
		p.links[from] = append(p.links[from], api.Link{ID: uint32(to + 1), Data: p.data(), Type: kind, Cost: p.cost()})
	}
	tell(a, b)
	if p.IntN(8) > 0 {
		tell(b, a)
	}
}

// gather lays a network between some routers; of several some have one Net.
func (p *plan) gather(t *testing.T, id uint32) {
	var ids []uint32
	for i := range p.links {
		if p.IntN(2) == 0 {
			ids = append(ids, uint32(i+1))
		}
		if p.IntN(2) == 0 {
			p.links[i] = append(p.links[i], transit(id, p.data(), p.cost()))
		}
	}
	if len(ids) > 0 {
		p.networks = append(p.networks, of(t, api.NetworkState, id, ids[0], api.Body{Mask: pick[uint32](p.Rand, mask24, mask24, mask16, mask0), Routers: ids}))
	}
}

func (p *plan) hang(i int) {
	p.links[i] = append(p.links[i], stub(pick[uint32](p.Rand, ten, ten+1<<8, widest), pick[uint32](p.Rand, mask24, mask24, mask16, mask0, noMask), p.cost()))
}

// spoilt: the state, seldom with something wrong.
func (p *plan) spoilt(s api.State) api.State {
	switch p.IntN(40) {
	case 0:
		s.Head.Sum++
	case 1:
		s.Head.Age = api.MaxAge
	case 2:
		s.Head.Age = api.NoAge | 5
	case 3:
		s.Body = s.Body[:p.IntN(len(s.Body)+1)]
		s, _ = state.Seal(s)
	case 4:
		s.Body = bytes.Clone(s.Body)
		s.Body[p.IntN(len(s.Body))]++
		s, _ = state.Seal(s)
	}
	return s
}

// someArea: the link states of some routers, in any order.
func someArea(t *testing.T, r *rand.Rand) []api.State {
	p := &plan{Rand: r, costs: pick(r, list[uint16](1, 2, 3), list[uint16](0, 1), list[uint16](1), list[uint16](0, dearest))}
	p.links = make([][]api.Link, 1+r.IntN(6))
	for range r.IntN(2 * len(p.links)) {
		p.join(p.someRouter(), p.someRouter())
	}
	for i := range r.IntN(4) {
		p.gather(t, pick[uint32](r, ten, ten+1<<8)+uint32(i))
	}
	for range r.IntN(3 * len(p.links)) {
		p.hang(p.someRouter())
	}
	l := p.networks
	for i, links := range p.links {
		l = append(l, flagged(t, uint32(i+1), uint8(r.IntN(256)), links...))
	}
	for i := range l {
		l[i] = p.spoilt(l[i])
	}
	r.Shuffle(len(l), func(i, j int) { l[i], l[j] = l[j], l[i] })
	return l
}

// TestByChance holds Routes against the chapter's words.
func TestByChance(t *testing.T) {
	r := rand.New(rand.NewPCG(18, 1))
	several, atHand, nothing, routersToo := 0, 0, 0, 0
	for range rounds() {
		l := someArea(t, r)
		area, root := r.Uint32(), uint32(r.IntN(8))
		nets, routers := inner.Routes(l, area, root)
		wantNets, wantRouters := wordsRoutes(l, area, root)
		if !sameWays(nets, wantNets) || !sameWays(routers, wantRouters) {
			t.Fatalf("P18.1: from %d of %+v:\n got %+v, %+v\nwant %+v, %+v", root, l, nets, routers, wantNets, wantRouters)
		}
		if len(nets) == 0 {
			nothing++
		}
		for _, w := range nets {
			switch {
			case len(w.Hops) == 0:
				atHand++
			case len(w.Hops) > 1:
				several++
			}
		}
		routersToo += len(routers)
	}
	if few := rounds() / 10; min(several, atHand, nothing, routersToo) < few {
		t.Errorf("too seldom to tell: %d ways have several hops, %d none, %d areas nothing, and %d routers", several, atHand, nothing, routersToo)
	}
}

// leads: is the rest of the way, by one of the root's edges that the hop may be, as much shorter as that edge costs?
func leads(l []api.State, root uint32, w inner.Way, h tree.Hop) bool {
	g := graph.Build(l)
	for _, e := range g[graph.Find(g, false, root)].Edges {
		next := g[e.To]
		if e.Data != h.Out || e.Cost > w.Cost {
			continue
		}
		rest := w.Cost - e.Cost
		if h.Via == 0 && next.Network && next.Net == w.Net && rest == 0 {
			return true
		}
		direct := !next.Network && next.ID == h.Via && e.Virtual == h.Virtual
		across := next.Network && !h.Virtual && slices.ContainsFunc(next.Edges, func(b graph.Edge) bool { return g[b.To].ID == h.Via })
		if h.Via != 0 && (direct || across) && leftTo(l, h.Via, w) == int64(rest) {
			return true
		}
	}
	return false
}

// leftTo: what is left of the way from that router; -1, if it does not lead on from there.
func leftTo(l []api.State, from uint32, w inner.Way) int64 {
	if w.Router == from {
		return 0
	}
	nets, routers := inner.Routes(l, 0, from)
	for _, o := range slices.Concat(nets, routers) {
		if o.Net == w.Net && o.Router == w.Router {
			return int64(o.Cost)
		}
	}
	return -1
}

// TestStepByStep: what follows: each hop of a way leads to a router, or a network, from which the rest is shorter by the hop's own cost.
func TestStepByStep(t *testing.T) {
	r := rand.New(rand.NewPCG(18, 2))
	steps := 0
	for range rounds() / 4 {
		l := someArea(t, r)
		nets, routers := inner.Routes(l, 0, 1)
		for _, w := range slices.Concat(nets, routers) {
			for _, h := range w.Hops {
				steps++
				if !leads(l, 1, w, h) {
					t.Fatalf("P18.1: the hop %v of %+v does not lead on, in %+v", h, w, l)
				}
			}
		}
	}
	if steps < rounds()/4 {
		t.Errorf("too seldom to tell: %d steps", steps)
	}
}

func someHops(r *rand.Rand) []tree.Hop {
	var l []tree.Hop
	for range r.IntN(5) {
		l = append(l, tree.Hop{Out: uint32(r.IntN(4)), Via: pick[uint32](r, 0, 1, 2, 3, widest), Virtual: r.IntN(2) == 0})
	}
	return l
}

func someWays(r *rand.Rand) []inner.Way {
	var l []inner.Way
	for range r.IntN(6) {
		w := inner.Way{Flags: uint8(r.IntN(256)), Kind: uint8(r.IntN(5)), Area: r.Uint32(), Cost: r.Uint32(), Far: r.Uint32(), Tag: r.Uint32(), Hops: someHops(r)}
		if r.IntN(3) == 0 {
			w.Net = api.Prefix{Addr: ten, Bits: uint8(8 + r.IntN(3))}
		} else {
			w.Router = pick[uint32](r, 1, 2, 3, widest)
		}
		l = append(l, w)
	}
	return l
}

// TestResolveByChance holds Resolve against the chapter's words; what is resolved stays so.
func TestResolveByChance(t *testing.T) {
	r := rand.New(rand.NewPCG(18, 3))
	less := 0
	for range 5 * rounds() {
		l, transit := someWays(r), someWays(r)
		got, want := inner.Resolve(l, transit), wordsResolve(l, transit)
		if !sameWays(got, want) {
			t.Fatalf("P18.2: %+v by %+v:\n got %+v\nwant %+v", l, transit, got, want)
		}
		if !sameWays(inner.Resolve(got, transit), want) || !sameWays(inner.Resolve(got, nil), want) {
			t.Fatalf("P18.2: %+v by %+v: %+v is not resolved", l, transit, got)
		}
		if len(got) < len(l) {
			less++
		}
	}
	if less < rounds()/2 {
		t.Errorf("too seldom to tell: %d lists get shorter", less)
	}
}

// roomy: the list in memory of its own, with something in its spare room.
func roomy[T any](l []T, spare ...T) []T { return slices.Concat(l, spare)[:len(l)] }

// roomyWays: ways in memory of their own, each list with something in its spare room.
func roomyWays(l []inner.Way) []inner.Way {
	l = roomy(l, toNet(7, 7, 7, hop(7, 7)))
	for i := range l {
		l[i].Hops = roomy(l[i].Hops, hop(7, 7), virtualHop(8, 8))
	}
	return l
}

// allOf: the ways, and their hops, with what is in their spare room.
func allOf(l []inner.Way) []inner.Way {
	l = slices.Clone(l[:cap(l)])
	for i := range l {
		l[i].Hops = slices.Clone(l[i].Hops[:cap(l[i].Hops)])
	}
	return l
}

// wantApart: R5: the ways are as wanted, and stay so when others are spoilt.
func wantApart(t *testing.T, want []inner.Way, got ...[]inner.Way) {
	t.Helper()
	i := 0
	for _, l := range got {
		for _, w := range l {
			if i >= len(want) || !sameWay(w, want[i]) {
				t.Fatalf("R5: way %d of %+v is %+v", i, want, w)
			}
			for j := range cap(w.Hops) {
				w.Hops[:cap(w.Hops)][j] = hop(99, 99)
			}
			i++
		}
		clear(l[:cap(l)])
	}
	if i != len(want) {
		t.Fatalf("R5: %d ways of %+v", i, want)
	}
}

// TestMemory: R5: what is handed in stays as it is, its spare room too, and the lists of an answer share nothing.
func TestMemory(t *testing.T) {
	r := rand.New(rand.NewPCG(18, 4))
	clone := func(l []api.State) []api.State {
		c := slices.Clone(l[:cap(l)])
		for i := range c {
			c[i].Body = bytes.Clone(c[i].Body[:cap(c[i].Body)])
		}
		return c
	}
	same := func(a, b api.State) bool { return a.Head == b.Head && bytes.Equal(a.Body, b.Body) }
	for range rounds() / 10 {
		l := roomy(someArea(t, r), router(t, 1, stub(ten, mask8, 1)))
		for i := range l {
			l[i].Body = roomy(l[i].Body, 7, 8, 9)
		}
		before := clone(l)
		wantNets, wantRouters := wordsRoutes(l, 3, 1)
		nets, routers := inner.Routes(l, 3, 1)
		if !slices.EqualFunc(before, clone(l), same) {
			t.Fatal("R5: Routes changed its argument")
		}
		for _, s := range l {
			clear(s.Body[:cap(s.Body)])
		}
		clear(l[:cap(l)])
		wantApart(t, slices.Concat(wantNets, wantRouters), nets, routers)
	}
}

// TestResolveMemory: R5, of Resolve.
func TestResolveMemory(t *testing.T) {
	r := rand.New(rand.NewPCG(18, 5))
	for range rounds() {
		l, transit := roomyWays(someWays(r)), roomyWays(someWays(r))
		wasL, wasTransit := allOf(l), allOf(transit)
		want := wordsResolve(l, transit)
		got := inner.Resolve(l, transit)
		again := inner.Resolve(l, transit)
		if !sameWays(allOf(l), wasL) || !sameWays(allOf(transit), wasTransit) {
			t.Fatal("R5: Resolve changed its arguments")
		}
		wantApart(t, want, got)
		if !sameWays(allOf(l), wasL) || !sameWays(allOf(transit), wasTransit) {
			t.Fatal("R5: an answer of Resolve shares memory with its arguments")
		}
		wantApart(t, want, again)
	}
}
