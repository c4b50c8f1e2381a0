package graph_test

import (
	"math"
	"slices"
	"testing"

	"lodestar/api"
	"lodestar/graph"
	"lodestar/state"
)

// of: a link state as it may be, of that Type, ID and Adv.
func of(t testing.TB, kind uint8, id, adv uint32, b api.Body) api.State {
	t.Helper()
	s, e := state.Encode(api.Head{Type: kind, ID: id, Adv: adv, Seq: 1}, b)
	if e != api.OK {
		t.Fatalf("Encode of Type %d, ID %d, %v: %v", kind, id, b, e)
	}
	return s
}

// router: a RouterState of a router that speaks of itself.
func router(t testing.TB, id uint32, links ...api.Link) api.State {
	t.Helper()
	return of(t, api.RouterState, id, id, api.Body{Links: links})
}

// network: a NetworkState, that adv says, of a network of 24 bits.
func network(t testing.TB, id, adv uint32, routers ...uint32) api.State {
	t.Helper()
	return of(t, api.NetworkState, id, adv, api.Body{Mask: 0xFFFFFF00, Routers: routers})
}

// aged: the state with that Age, which is not summed.
func aged(s api.State, age uint16) api.State {
	s.Head.Age = age
	return s
}

// link: to an ID, by a Type; its Cost and Data tell it from others.
func link(kind uint8, id, data uint32, cost uint16) api.Link {
	return api.Link{ID: id, Data: data, Type: kind, Cost: cost}
}

func edge(to int, data, cost uint32) graph.Edge { return graph.Edge{To: to, Cost: cost, Data: data} }

func virtual(to int, data, cost uint32) graph.Edge {
	return graph.Edge{To: to, Cost: cost, Data: data, Virtual: true}
}

func stub(addr uint32, bits uint8, cost uint32) graph.Stub {
	return graph.Stub{Net: api.Prefix{Addr: addr, Bits: bits}, Cost: cost}
}

func list[T any](l ...T) []T { return l }

// sameNode: lists that are nil and empty ones are the same.
func sameNode(a, b graph.Node) bool {
	return a.Network == b.Network && a.ID == b.ID && a.Net == b.Net && a.Flags == b.Flags && slices.Equal(a.Edges, b.Edges) && slices.Equal(a.Stubs, b.Stubs)
}

func sameGraph(a, b []graph.Node) bool { return slices.EqualFunc(a, b, sameNode) }

func wantGraph(t *testing.T, what string, l []api.State, want ...graph.Node) {
	t.Helper()
	if got := graph.Build(l); !sameGraph(got, want) {
		t.Errorf("P16.1: %s:\n got %+v\nwant %+v", what, got, want)
	}
}

// wordsCount: does a link state count, as far as it alone tells?
func wordsCount(s api.State) bool {
	if state.Check(s) != api.OK || s.Head.Age%0x8000 >= 3600 {
		return false
	}
	switch s.Head.Type {
	case 1:
		return s.Head.ID == s.Head.Adv && s.Head.ID != 0
	case 2:
		return true
	}
	return false
}

// wordsLose: does one that counts alone, at i, lose against another one of the list?
func wordsLose(l []api.State, i int) bool {
	for j, o := range l {
		a, b := l[i].Head, o.Head
		if j == i || !wordsCount(o) || a.Type != b.Type || a.ID != b.ID {
			continue
		}
		if a.Type == 2 && b.Adv > a.Adv || a.Adv == b.Adv && j < i {
			return true
		}
	}
	return false
}

// wordsOf: the link states that count, in the order of the nodes, and their bodies.
func wordsOf(l []api.State) (heads []api.Head, bodies []api.Body) {
	type pair struct {
		head api.Head
		body api.Body
	}
	var kept []pair
	for i, s := range l {
		if wordsCount(s) && !wordsLose(l, i) {
			b, _ := state.Decode(s)
			kept = append(kept, pair{s.Head, b})
		}
	}
	slices.SortFunc(kept, func(a, b pair) int {
		return int(a.head.Type)<<33 + int(a.head.ID) - int(b.head.Type)<<33 - int(b.head.ID)
	})
	for _, p := range kept {
		heads, bodies = append(heads, p.head), append(bodies, p.body)
	}
	return heads, bodies
}

// wordsMask: of how many bits it is the mask; -1, if it is none.
func wordsMask(mask uint32) int {
	for n := range 33 {
		if uint64(mask) == (math.MaxUint32<<(32-n))&math.MaxUint32 {
			return n
		}
	}
	return -1
}

// wordsBuild: P16.1, sentence by sentence, asking each link of each state.
func wordsBuild(l []api.State) []graph.Node {
	heads, bodies := wordsOf(l)
	find := func(kind uint8, id uint32) int {
		return slices.IndexFunc(heads, func(h api.Head) bool { return h.Type == kind && h.ID == id })
	}
	links := func(from int, kind uint8, id uint32) bool {
		return slices.ContainsFunc(bodies[from].Links, func(x api.Link) bool { return x.Type == kind && x.ID == id })
	}
	var g []graph.Node
	for i, h := range heads {
		n := graph.Node{ID: h.ID, Flags: bodies[i].Flags}
		for _, x := range bodies[i].Links {
			e := graph.Edge{Cost: uint32(x.Cost), Data: x.Data, Virtual: x.Type == 4}
			switch x.Type {
			case 1, 4:
				e.To = find(1, x.ID)
				if e.To >= 0 && e.To != i && links(e.To, x.Type, h.ID) {
					n.Edges = append(n.Edges, e)
				}
			case 2:
				e.To = find(2, x.ID)
				if e.To >= 0 && slices.Contains(bodies[e.To].Routers, h.ID) {
					n.Edges = append(n.Edges, e)
				}
			case 3:
				if bits := wordsMask(x.Data); bits >= 0 {
					n.Stubs = append(n.Stubs, stub(x.ID&x.Data, uint8(bits), uint32(x.Cost)))
				}
			}
		}
		if h.Type == 2 {
			n.Network = true
			n.Net = api.Prefix{Addr: h.ID & bodies[i].Mask, Bits: uint8(wordsMask(bodies[i].Mask))}
			for _, id := range bodies[i].Routers {
				if to := find(1, id); to >= 0 && links(to, 2, h.ID) {
					n.Edges = append(n.Edges, graph.Edge{To: to})
				}
			}
		}
		g = append(g, n)
	}
	return g
}
