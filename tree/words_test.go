package tree_test

import (
	"slices"
	"testing"

	"lodestar/graph"
	"lodestar/tree"
)

func router(id uint32, edges ...graph.Edge) graph.Node { return graph.Node{ID: id, Edges: edges} }

func network(id uint32, edges ...graph.Edge) graph.Node {
	return graph.Node{Network: true, ID: id, Edges: edges}
}

// edge: of a router; its Data tells it from others.
func edge(to int, cost, data uint32) graph.Edge { return graph.Edge{To: to, Cost: cost, Data: data} }

func virtual(to int, cost, data uint32) graph.Edge {
	return graph.Edge{To: to, Cost: cost, Data: data, Virtual: true}
}

// back: an edge of a network, as package graph makes them.
func back(to int) graph.Edge { return graph.Edge{To: to} }

func hop(out, via uint32) tree.Hop { return tree.Hop{Out: out, Via: via} }

func virtualHop(out, via uint32) tree.Hop { return tree.Hop{Out: out, Via: via, Virtual: true} }

// at: a node that is reached.
func at(cost uint32, hops ...tree.Hop) tree.Reach {
	return tree.Reach{Is: true, Cost: cost, Hops: hops}
}

func list[T any](l ...T) []T { return l }

// sameReach: lists that are nil and empty ones are the same.
func sameReach(a, b tree.Reach) bool {
	return a.Is == b.Is && a.Cost == b.Cost && slices.Equal(a.Hops, b.Hops)
}

func sameTree(a, b []tree.Reach) bool { return slices.EqualFunc(a, b, sameReach) }

func wantFrom(t *testing.T, what string, g []graph.Node, root int, want ...tree.Reach) {
	t.Helper()
	if got := tree.From(g, root); !sameTree(got, want) {
		t.Errorf("P17.1: %s: from %d:\n got %+v\nwant %+v", what, root, got, want)
	}
}

// way: where a way has come to, the sum of its edges' Costs, and its hop.
type way struct {
	at  int
	sum uint64
	hop tree.Hop
}

// wordsBegin: the way of the root's edge alone.
func wordsBegin(g []graph.Node, e graph.Edge) way {
	if g[e.To].Network {
		return way{e.To, uint64(e.Cost), tree.Hop{Out: e.Data}}
	}
	return way{e.To, uint64(e.Cost), tree.Hop{Out: e.Data, Via: g[e.To].ID, Virtual: e.Virtual}}
}

// wordsGoOn: the way, and the edge behind it.
func wordsGoOn(g []graph.Node, w way, e graph.Edge) way {
	w.at, w.sum = e.To, w.sum+uint64(e.Cost)
	if w.hop.Via == 0 && !g[e.To].Network {
		w.hop.Via = g[e.To].ID
	}
	return w
}

// wordsWays: all ways from the root that may be, as long as need be: a shortest one comes to its first router, and from there on, without going round.
func wordsWays(g []graph.Node, root int) map[way]bool {
	all := map[way]bool{}
	var fresh []way
	add := func(e graph.Edge, led func() way) {
		if e.To < 0 || e.To >= len(g) || e.To == root {
			return
		}
		if w := led(); w.sum < 1<<32 && !all[w] {
			all[w] = true
			fresh = append(fresh, w)
		}
	}
	for _, e := range g[root].Edges {
		add(e, func() way { return wordsBegin(g, e) })
	}
	for range 2 * len(g) {
		last := fresh
		fresh = nil
		for _, w := range last {
			for _, e := range g[w.at].Edges {
				add(e, func() way { return wordsGoOn(g, w, e) })
			}
		}
	}
	return all
}

// wordsAhead: in order: by Out, then Via, then not Virtual ahead of Virtual.
func wordsAhead(a, b tree.Hop) bool {
	if a.Out != b.Out {
		return a.Out < b.Out
	}
	if a.Via != b.Via {
		return a.Via < b.Via
	}
	return !a.Virtual && b.Virtual
}

// wordsPut: the hop at its place in a list that is in order, if it is not there.
func wordsPut(l []tree.Hop, h tree.Hop) []tree.Hop {
	for i, x := range l {
		if x == h {
			return l
		}
		if wordsAhead(h, x) {
			return slices.Insert(l, i, h)
		}
	}
	return append(l, h)
}

// wordsFrom: P17.1, asking each way.
func wordsFrom(g []graph.Node, root int) []tree.Reach {
	if root < 0 || root >= len(g) {
		return nil
	}
	for _, n := range g {
		if !n.Network && n.ID == 0 {
			return nil
		}
	}
	all := wordsWays(g, root)
	l := make([]tree.Reach, len(g))
	l[root].Is = true
	for w := range all {
		if r := &l[w.at]; !r.Is || w.sum < uint64(r.Cost) {
			r.Is, r.Cost = true, uint32(w.sum)
		}
	}
	for w := range all {
		if r := &l[w.at]; w.sum == uint64(r.Cost) {
			r.Hops = wordsPut(r.Hops, w.hop)
		}
	}
	return l
}

// wordsJoin: P17.2.
func wordsJoin(a, b []tree.Hop) []tree.Hop {
	var l []tree.Hop
	for _, h := range slices.Concat(a, b) {
		l = wordsPut(l, h)
	}
	return l
}
