package graph_test

import (
	"bytes"
	"math"
	"testing"

	"lodestar/api"
	"lodestar/graph"
	"lodestar/state"
)

const (
	ten    = 0x0A000002
	widest = math.MaxUint32
)

// example: the chapter's link states.
func example(t testing.TB) []api.State {
	t.Helper()
	return list(
		router(t, 1, link(2, ten, 0x0A000001, 3), link(3, 0x0A010000, 0xFFFF0000, 7)),
		router(t, 2, link(2, ten, ten, 5)),
		network(t, ten, 2, 2, 1),
	)
}

func tenNode(edges ...graph.Edge) graph.Node {
	return graph.Node{Network: true, ID: ten, Net: api.Prefix{Addr: 0x0A000000, Bits: 24}, Edges: edges}
}

func TestExamples(t *testing.T) {
	one := graph.Node{ID: 1, Edges: list(edge(2, 0x0A000001, 3)), Stubs: list(stub(0x0A010000, 16, 7))}
	wantGraph(t, "the example", example(t), one, graph.Node{ID: 2, Edges: list(edge(2, ten, 5))}, tenNode(edge(1, 0, 0), edge(0, 0, 0)))
	l := example(t)
	l[1] = router(t, 2)
	wantGraph(t, "without router 2's link", l, one, graph.Node{ID: 2}, tenNode(edge(0, 0, 0)))
}

func TestNothing(t *testing.T) {
	wantGraph(t, "nil", nil)
	wantGraph(t, "no elements", []api.State{})
	wantGraph(t, "a zero state", []api.State{{}})
}

// TestCountsAlone: what a link state by itself must be to count.
func TestCountsAlone(t *testing.T) {
	r, n := router(t, 1), network(t, ten, 2, 1)
	changed := func(s api.State, change func(*api.State)) api.State {
		s.Body = bytes.Clone(s.Body)
		change(&s)
		return s
	}
	sealed := func(s api.State) api.State {
		s, _ = state.Seal(s)
		return s
	}
	for _, c := range []struct {
		what   string
		s      api.State
		counts bool
	}{
		{"a router", r, true},
		{"a network", n, true},
		{"a router one tick ahead of MaxAge", aged(r, 3599), true},
		{"a router of MaxAge", aged(r, 3600), false},
		{"a router above MaxAge", aged(r, 3601), false},
		{"a network one tick ahead of MaxAge", aged(n, 3599), true},
		{"a network of MaxAge", aged(n, 3600), false},
		{"a router whose age stands still", aged(r, 0x8000), true},
		{"a router whose age stands still one tick ahead of MaxAge", aged(r, 0x8000|3599), true},
		{"a router whose age stands still at MaxAge", aged(r, 0x8000|3600), false},
		{"a network whose age stands still", aged(n, 0x8001), true},
		{"a network whose age stands still at MaxAge", aged(n, 0x8000|3600), false},
		{"a router whose sum is wrong", changed(r, func(s *api.State) { s.Head.Sum++ }), false},
		{"a router whose sum is 0", changed(r, func(s *api.State) { s.Head.Sum = 0 }), false},
		{"a network of which a byte is another one", changed(n, func(s *api.State) { s.Body[7]++ }), false},
		{"a router whose length is wrong", changed(r, func(s *api.State) { s.Head.Len++ }), false},
		{"a router without a body", api.State{Head: r.Head}, false},
		{"a router whose number may not be", sealed(changed(r, func(s *api.State) { s.Head.Seq = math.MinInt32 })), false},
		{"a router of the first number", sealed(changed(r, func(s *api.State) { s.Head.Seq = api.FirstSeq })), true},
		{"a network without a mask", sealed(changed(n, func(s *api.State) { s.Body[2] = 0; s.Body[3] = 255 })), false},
		{"a network without routers", sealed(api.State{Head: n.Head, Body: n.Body[:4]}), false},
		{"a router of another one's saying", of(t, api.RouterState, 1, 2, api.Body{}), false},
		{"a router of 0's saying", of(t, api.RouterState, 1, 0, api.Body{}), false},
		{"a router with the ID 0", of(t, api.RouterState, 0, 0, api.Body{}), false},
		{"a router with the ID 0 of another one's saying", of(t, api.RouterState, 0, 1, api.Body{}), false},
		{"the widest router", router(t, widest), true},
		{"a network with the ID 0", network(t, 0, 1, 1), true},
		{"a network with the Adv 0", network(t, ten, 0, 1), true},
		{"the widest network", network(t, widest, widest, widest), true},
		{"a summary", of(t, api.SummaryState, ten, 1, api.Body{Mask: 0xFFFFFF00}), false},
		{"a border router", of(t, api.BorderState, 1, 1, api.Body{}), false},
		{"another system's", of(t, api.OuterState, 1, 1, api.Body{}), false},
		{"a NSSA's", of(t, api.NSSAState, 1, 1, api.Body{}), false},
		{"a link's opaque one", of(t, api.OpaqueLink, 1, 1, api.Body{}), false},
		{"an area's opaque one", of(t, api.OpaqueArea, 1, 1, api.Body{}), false},
		{"an opaque one for all", of(t, api.OpaqueAll, 1, 1, api.Body{}), false},
		{"a router's bytes of no Type", sealed(changed(r, func(s *api.State) { s.Head.Type = 6 })), false},
		{"a router's bytes of Type 0", sealed(changed(r, func(s *api.State) { s.Head.Type = 0 })), false},
	} {
		if g := graph.Build(list(c.s)); (len(g) == 1) != c.counts || len(g) > 1 {
			t.Errorf("P16.1: %s: %+v", c.what, g)
		}
	}
}

// TestCountsAmong: which of several counts, told by Flags and masks.
func TestCountsAmong(t *testing.T) {
	flagged := func(id uint32, flags uint8) api.State {
		return of(t, api.RouterState, id, id, api.Body{Flags: flags})
	}
	masked := func(adv, mask uint32) api.State {
		return of(t, api.NetworkState, ten, adv, api.Body{Mask: mask, Routers: list[uint32](1)})
	}
	net := func(bits uint8) graph.Node {
		return graph.Node{Network: true, ID: ten, Net: api.Prefix{Addr: 0x0A000000, Bits: bits}}
	}
	const eight, nine, twelve = 0xFF000000, 0xFF800000, 0xFFF00000
	broken := masked(9, eight)
	broken.Head.Sum ^= 1
	wantGraph(t, "of one router the first", list(flagged(1, 4), flagged(1, 2), flagged(1, 7)), graph.Node{ID: 1, Flags: 4})
	wantGraph(t, "the first is the older one", list(aged(flagged(1, 4), 3599), flagged(1, 2)), graph.Node{ID: 1, Flags: 4})
	wantGraph(t, "the first does not count", list(aged(flagged(1, 4), 3600), flagged(1, 2), flagged(1, 7)), graph.Node{ID: 1, Flags: 2})
	wantGraph(t, "one does not say it of itself", list(of(t, api.RouterState, 1, 9, api.Body{Flags: 7}), flagged(1, 2)), graph.Node{ID: 1, Flags: 2})
	wantGraph(t, "of one network the first", list(masked(3, eight), masked(3, nine)), net(8))
	wantGraph(t, "the first of the greatest Adv", list(masked(3, eight), masked(4, nine), masked(4, twelve), masked(3, twelve)), net(9))
	wantGraph(t, "the greatest Adv is behind", list(masked(0, eight), masked(widest, nine)), net(9))
	wantGraph(t, "the greatest Adv is ahead", list(masked(1<<31, nine), masked(1<<31-1, eight)), net(9))
	wantGraph(t, "the greatest Adv is too old", list(aged(masked(9, eight), 3600), masked(4, twelve)), net(12))
	wantGraph(t, "the greatest Adv may not be", list(masked(4, twelve), broken), net(12))
}

// TestNodes: their order, and what they have.
func TestNodes(t *testing.T) {
	l := list(
		network(t, widest, 1, 9), of(t, api.RouterState, widest, widest, api.Body{Flags: 255}), network(t, 0, 1, 9),
		router(t, 1<<31), of(t, api.RouterState, 2, 2, api.Body{Flags: api.FlagB | api.FlagNt}), network(t, 2, 7, 9), network(t, 1<<31, 1, 9), router(t, 1<<31-1),
	)
	net := func(id, addr uint32) graph.Node {
		return graph.Node{Network: true, ID: id, Net: api.Prefix{Addr: addr, Bits: 24}}
	}
	wantGraph(t, "the order", l,
		graph.Node{ID: 2, Flags: 17}, graph.Node{ID: 1<<31 - 1}, graph.Node{ID: 1 << 31}, graph.Node{ID: widest, Flags: 255},
		net(0, 0), net(2, 0), net(1<<31, 1<<31), net(widest, 0xFFFFFF00))
	for _, c := range []struct {
		mask, addr uint32
		bits       uint8
	}{{0, 0, 0}, {1 << 31, 1 << 31, 1}, {0xFFFF0000, 0xC0A80000, 16}, {0xFFFFFFFE, 0xC0A80102, 31}, {widest, 0xC0A80103, 32}} {
		n := of(t, api.NetworkState, 0xC0A80103, 1, api.Body{Mask: c.mask, Routers: list[uint32](1)})
		wantGraph(t, "a network's Net", list(n), graph.Node{Network: true, ID: 0xC0A80103, Net: api.Prefix{Addr: c.addr, Bits: c.bits}})
	}
}

// TestRouterEdges: from a router to a router, with and without a link back.
func TestRouterEdges(t *testing.T) {
	const point, line = 1, 4
	for _, c := range []struct {
		what     string
		one, two []api.Link
		a, b     []graph.Edge
	}{
		{"both ways", list(link(point, 2, 7, 3)), list(link(point, 1, 8, 5)), list(edge(1, 7, 3)), list(edge(0, 8, 5))},
		{"virtual both ways", list(link(line, 2, 7, 3)), list(link(line, 1, 8, 5)), list(virtual(1, 7, 3)), list(virtual(0, 8, 5))},
		{"one way", list(link(point, 2, 7, 3)), nil, nil, nil},
		{"virtual one way", nil, list(link(line, 1, 7, 3)), nil, nil},
		{"Type 1 against Type 4", list(link(point, 2, 7, 3)), list(link(line, 1, 8, 5)), nil, nil},
		{"Type 4 against Type 1", list(link(line, 2, 7, 3)), list(link(point, 1, 8, 5)), nil, nil},
		{"Type 4 has none back", list(link(line, 2, 6, 1), link(point, 2, 7, 3)), list(link(point, 1, 8, 5)), list(edge(1, 7, 3)), list(edge(0, 8, 5))},
		{"Type 1 has none back", list(link(point, 2, 7, 3), link(line, 2, 6, 1)), list(link(line, 1, 8, 5)), list(virtual(1, 6, 1)), list(virtual(0, 8, 5))},
		{"several, in order", list(link(point, 2, 9, 9), link(line, 2, 6, 1), link(point, 2, 7, 3), link(point, 2, 9, 9)), list(link(line, 1, 8, 5), link(point, 1, 4, 2)),
			list(edge(1, 9, 9), virtual(1, 6, 1), edge(1, 7, 3), edge(1, 9, 9)), list(virtual(0, 8, 5), edge(0, 4, 2))},
		{"to itself", list(link(point, 1, 7, 3), link(line, 1, 7, 3)), list(link(point, 2, 7, 3)), nil, nil},
		{"to nobody", list(link(point, 3, 7, 3), link(point, 0, 7, 3), link(line, widest, 7, 3)), nil, nil, nil},
		{"back as a network", list(link(point, 2, 7, 3)), list(link(2, 1, 8, 5)), nil, nil},
		{"back as a stub", list(link(point, 2, 7, 3)), list(link(3, 1, 0xFF00FF00, 5)), nil, nil},
		{"the widest", list(link(point, 2, widest, 65535)), list(link(point, 1, 0, 0)), list(edge(1, widest, 65535)), list(edge(0, 0, 0))},
	} {
		l := list(router(t, 1, c.one...), router(t, 2, c.two...))
		wantGraph(t, c.what, l, graph.Node{ID: 1, Edges: c.a}, graph.Node{ID: 2, Edges: c.b})
	}
	back := list(router(t, 2, link(point, 1, 8, 5)), aged(router(t, 1, link(point, 2, 7, 3)), 3600), router(t, 3))
	wantGraph(t, "to one that does not count", back, graph.Node{ID: 2}, graph.Node{ID: 3})
	third := list(router(t, 1, link(point, 2, 7, 3)), router(t, 2, link(point, 3, 8, 5)), router(t, 3, link(point, 1, 9, 6)))
	wantGraph(t, "in a ring, one way", third, graph.Node{ID: 1}, graph.Node{ID: 2}, graph.Node{ID: 3})
}

// TestNetworkEdges: between a router and a network.
func TestNetworkEdges(t *testing.T) {
	const transit = 2
	for _, c := range []struct {
		what    string
		links   []api.Link
		routers []uint32
		a, b    []graph.Edge
	}{
		{"both ways", list(link(transit, ten, 7, 3)), list[uint32](1), list(edge(1, 7, 3)), list(edge(0, 0, 0))},
		{"the network lacks it", list(link(transit, ten, 7, 3)), list[uint32](2), nil, nil},
		{"the router lacks it", nil, list[uint32](1), nil, nil},
		{"a network that is none", list(link(transit, ten+1, 7, 3)), list[uint32](1), nil, nil},
		{"of Type 1", list(link(1, ten, 7, 3)), list[uint32](1), nil, nil},
		{"of Type 4", list(link(4, ten, 7, 3)), list[uint32](1), nil, nil},
		{"as a router's ID", list(link(transit, 1, 7, 3)), list[uint32](1), nil, nil},
		{"twice by the router", list(link(transit, ten, 7, 3), link(transit, ten, 8, 5)), list[uint32](1), list(edge(1, 7, 3), edge(1, 8, 5)), list(edge(0, 0, 0))},
		{"twice by the network", list(link(transit, ten, 7, 3)), list[uint32](1, 9, 1), list(edge(1, 7, 3)), list(edge(0, 0, 0), edge(0, 0, 0))},
		{"with the network's ID and 0", list(link(transit, ten, 7, 3)), list[uint32](ten, 0, widest), nil, nil},
		{"the widest", list(link(transit, ten, widest, 65535)), list[uint32](1), list(edge(1, widest, 65535)), list(edge(0, 0, 0))},
	} {
		l := list(network(t, ten, 1, c.routers...), router(t, 1, c.links...))
		wantGraph(t, c.what, l, graph.Node{ID: 1, Edges: c.a}, tenNode(c.b...))
	}
	same := list(router(t, ten, link(transit, ten, 7, 3), link(1, ten, 8, 4)), network(t, ten, ten, ten))
	wantGraph(t, "a router with the network's ID", same, graph.Node{ID: ten, Edges: list(edge(1, 7, 3))}, tenNode(edge(0, 0, 0)))
	outbid := list(router(t, 1, link(transit, ten, 7, 3)), network(t, ten, 1, 1), network(t, ten, 2, 2))
	wantGraph(t, "a network that another one outbids", outbid, graph.Node{ID: 1}, tenNode())
	order := list(network(t, ten, 1, 3, 9, 1, 2), router(t, 1, link(transit, ten, 7, 3)), router(t, 2), router(t, 3, link(transit, ten, 8, 4)))
	wantGraph(t, "in the network's order", order, graph.Node{ID: 1, Edges: list(edge(3, 7, 3))}, graph.Node{ID: 2}, graph.Node{ID: 3, Edges: list(edge(3, 8, 4))}, tenNode(edge(2, 0, 0), edge(0, 0, 0)))
}

func TestStubs(t *testing.T) {
	l := list(router(t, 1,
		link(3, 0x0A010203, 0xFFFF0000, 7), link(3, 0x0A010203, 0xFFFF00FF, 8), link(3, 0x0A010203, widest, 65535), link(3, 0x0A010203, 0, 9),
		link(3, 0x0A010203, 1<<31-1, 8), link(3, 0x0A010000, 0xFFFF0000, 7), link(1, 0x0A010203, 0xFFFF0000, 7), link(2, 0x0A010203, 0xFFFF0000, 7),
		link(4, 0x0A010203, 0xFFFF0000, 7), link(3, 0, widest, 0), link(3, 2, 0xFFFFFFFE, 1), link(3, 0x0A010203, 1, 8),
	), router(t, 2, link(3, 1, widest, 2)))
	wantGraph(t, "stubs, in order", l,
		graph.Node{ID: 1, Stubs: list(stub(0x0A010000, 16, 7), stub(0x0A010203, 32, 65535), stub(0, 0, 9), stub(0x0A010000, 16, 7), stub(0, 32, 0), stub(2, 31, 1))},
		graph.Node{ID: 2, Stubs: list(stub(1, 32, 2))})
}

func TestFind(t *testing.T) {
	g := []graph.Node{{ID: 1}, {ID: 2}, {ID: 5}, {ID: 2, Flags: 1}, {Network: true, ID: 1}, {Network: true, ID: 0}, {Network: true, ID: 1, Flags: 1}, {ID: 0}, {Network: true, ID: widest}}
	for _, c := range []struct {
		network bool
		id      uint32
		at      int
	}{{false, 1, 0}, {false, 2, 1}, {false, 5, 2}, {true, 1, 4}, {true, 0, 5}, {false, 0, 7}, {true, widest, 8}, {false, widest, -1}, {true, 5, -1}, {true, 2, -1}, {false, 3, -1}} {
		if at := graph.Find(g, c.network, c.id); at != c.at {
			t.Errorf("P16.2: Find(%v, %d): %d; want %d", c.network, c.id, at, c.at)
		}
	}
	if graph.Find(nil, false, 0) != -1 || graph.Find([]graph.Node{}, true, 0) != -1 {
		t.Error("P16.2: something is found in nothing")
	}
	e := graph.Build(example(t))
	if graph.Find(e, true, ten) != 2 || graph.Find(e, false, 2) != 1 || graph.Find(e, false, ten) != -1 {
		t.Error("P16.2: the example's nodes are not found")
	}
}
