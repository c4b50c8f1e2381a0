package tree_test

import (
	"math"
	"slices"
	"testing"

	"lodestar/api"
	"lodestar/graph"
	"lodestar/state"
	"lodestar/tree"
)

const (
	ten    = 0x0A000000
	widest = math.MaxUint32
)

// of: a link state as it may be, of that Type and ID, that adv says.
func of(t testing.TB, kind uint8, id, adv uint32, b api.Body) api.State {
	t.Helper()
	s, e := state.Encode(api.Head{Type: kind, ID: id, Adv: adv, Seq: 1}, b)
	if e != api.OK {
		t.Fatalf("Encode of Type %d, ID %d, %v: %v", kind, id, b, e)
	}
	return s
}

// example: the graph of chapter 16.
func example(t testing.TB) []graph.Node {
	t.Helper()
	return graph.Build(list(
		of(t, 1, 1, 1, api.Body{Links: list(api.Link{ID: ten + 2, Data: ten + 1, Type: 2, Cost: 3}, api.Link{ID: ten + 1<<16, Data: 0xFFFF0000, Type: 3, Cost: 7})}),
		of(t, 1, 2, 2, api.Body{Links: list(api.Link{ID: ten + 2, Data: ten + 2, Type: 2, Cost: 5})}),
		of(t, 2, ten+2, 2, api.Body{Mask: 0xFFFFFF00, Routers: list[uint32](2, 1)}),
	))
}

func TestExamples(t *testing.T) {
	g := example(t)
	wantFrom(t, "the example", g, 0, at(0), at(3, hop(ten+1, 2)), at(3, hop(ten+1, 0)))
	wantFrom(t, "the example", g, 7)
	wantFrom(t, "the example", g, 1, at(5, hop(ten+2, 1)), at(0), at(5, hop(ten+2, 0)))
	wantFrom(t, "the example", g, 2, at(0, hop(0, 1)), at(0, hop(0, 2)), at(0))
}

// TestRoot: it must be the number of a node.
func TestRoot(t *testing.T) {
	g := list(router(1, edge(1, 1, 5)), router(2))
	wantFrom(t, "the first", g, 0, at(0), at(1, hop(5, 2)))
	wantFrom(t, "the last", g, 1, tree.Reach{}, at(0))
	for _, root := range []int{2, 3, -1, math.MaxInt, math.MinInt} {
		wantFrom(t, "none", g, root)
	}
	wantFrom(t, "no nodes", nil, 0)
	wantFrom(t, "no nodes", []graph.Node{}, 0)
	wantFrom(t, "one node", list(router(1)), 0, at(0))
	wantFrom(t, "one network", list(network(0)), 0, at(0))
}

// TestIDs: a router may not have 0, wherever it stands; a network may.
func TestIDs(t *testing.T) {
	wantFrom(t, "the root is 0", list(router(0, edge(1, 1, 5)), router(2)), 0)
	wantFrom(t, "one that is reached is 0", list(router(1, edge(1, 1, 5)), router(0)), 0)
	wantFrom(t, "one that is not reached is 0", list(router(1, edge(1, 1, 5)), router(2), router(0)), 0)
	wantFrom(t, "a network is 0", list(router(1, edge(1, 1, 5)), network(0, back(2)), router(widest)), 0,
		at(0), at(1, hop(5, 0)), at(1, hop(5, widest)))
	wantFrom(t, "two have one ID", list(router(7, edge(1, 1, 5), edge(2, 2, 6)), router(7), router(7)), 0,
		at(0), at(1, hop(5, 7)), at(2, hop(6, 7)))
}

// TestCosts: the least sum, and none of 2^32 or more.
func TestCosts(t *testing.T) {
	wantFrom(t, "round is shorter", list(router(1, edge(1, 9, 5), edge(2, 1, 6)), router(2), router(3, edge(1, 7, 0))), 0,
		at(0), at(8, hop(6, 3)), at(1, hop(6, 3)))
	wantFrom(t, "straight is shorter", list(router(1, edge(1, 7, 5), edge(2, 1, 6)), router(2), router(3, edge(1, 7, 0))), 0,
		at(0), at(7, hop(5, 2)), at(1, hop(6, 3)))
	wantFrom(t, "of two edges the cheaper", list(router(1, edge(1, 7, 5), edge(1, 6, 6), edge(1, 8, 7)), router(2)), 0,
		at(0), at(6, hop(6, 2)))
	wantFrom(t, "the largest", list(router(1, edge(1, widest, 5)), router(2)), 0, at(0), at(widest, hop(5, 2)))
	wantFrom(t, "the largest sum", list(router(1, edge(1, widest-1, 5)), router(2, edge(2, 1, 0)), router(3, edge(3, 0, 0)), router(4)), 0,
		at(0), at(widest-1, hop(5, 2)), at(widest, hop(5, 2)), at(widest, hop(5, 2)))
	wantFrom(t, "2^32", list(router(1, edge(1, widest, 5)), router(2, edge(2, 1, 0)), router(3, edge(3, 0, 0)), router(4)), 0,
		at(0), at(widest, hop(5, 2)), tree.Reach{}, tree.Reach{})
	wantFrom(t, "more than 2^32", list(router(1, edge(1, widest, 5)), network(2, edge(2, widest, 0)), router(3)), 0,
		at(0), at(widest, hop(5, 0)), tree.Reach{})
	wantFrom(t, "2^32 one way, less the other", list(router(1, edge(1, 1<<31, 5), edge(2, widest, 6)), router(2, edge(2, 1<<31, 0)), router(3)), 0,
		at(0), at(1<<31, hop(5, 2)), at(widest, hop(6, 3)))
	wantFrom(t, "nothing", list(router(1, edge(1, 0, 5)), router(2, edge(2, 0, 0)), network(3)), 0,
		at(0), at(0, hop(5, 2)), at(0, hop(5, 2)))
}

// TestReached: by edges from the root on, not by those back.
func TestReached(t *testing.T) {
	g := list(router(1, edge(1, 1, 5)), router(2), router(3, edge(0, 1, 6), edge(1, 1, 7)), network(4, back(0), back(2)))
	wantFrom(t, "edges of one side", g, 0, at(0), at(1, hop(5, 2)), tree.Reach{}, tree.Reach{})
	wantFrom(t, "from a network", g, 3, at(0, hop(0, 1)), at(1, hop(0, 1), hop(0, 3)), at(0, hop(0, 3)), at(0))
	for _, to := range []int{-1, 4, 5, math.MaxInt, math.MinInt} {
		g := list(router(1, edge(to, 1, 5), edge(1, 2, 6)), router(2, edge(to, 0, 7), edge(2, 0, 8)), network(3, edge(to, 0, 0), back(3)), router(4))
		wantFrom(t, "edges to no node", g, 0, at(0), at(2, hop(6, 2)), at(2, hop(6, 2)), at(2, hop(6, 2)))
	}
}

// TestHops: what each kind of first edge says.
func TestHops(t *testing.T) {
	wantFrom(t, "a router", list(router(1, edge(1, 1, 5)), router(9, edge(2, 1, 6)), router(3)), 0,
		at(0), at(1, hop(5, 9)), at(2, hop(5, 9)))
	wantFrom(t, "a virtual link", list(router(1, virtual(1, 1, 5)), router(9, edge(2, 1, 6)), network(3, back(3)), router(4)), 0,
		at(0), at(1, virtualHop(5, 9)), at(2, virtualHop(5, 9)), at(2, virtualHop(5, 9)))
	wantFrom(t, "a virtual link farther on", list(router(1, edge(1, 1, 5)), router(9, virtual(2, 1, 6)), router(3)), 0,
		at(0), at(1, hop(5, 9)), at(2, hop(5, 9)))
	wantFrom(t, "a virtual link behind a network", list(router(1, edge(1, 1, 5)), network(9, virtual(2, 0, 0)), router(3, virtual(3, 1, 0)), router(4)), 0,
		at(0), at(1, hop(5, 0)), at(1, hop(5, 3)), at(2, hop(5, 3)))
	wantFrom(t, "a network", list(router(1, edge(1, 1, 5)), network(9, back(2), back(0), back(3)), router(3, edge(4, 1, 6)), router(4), router(5)), 0,
		at(0), at(1, hop(5, 0)), at(1, hop(5, 3)), at(1, hop(5, 4)), at(2, hop(5, 3)))
	wantFrom(t, "a network behind a router", list(router(1, edge(1, 1, 5)), router(2, edge(2, 1, 6)), network(9, back(1), back(3)), router(4)), 0,
		at(0), at(1, hop(5, 2)), at(2, hop(5, 2)), at(2, hop(5, 2)))
	wantFrom(t, "networks behind a network", list(router(1, edge(1, 1, 5)), network(9, edge(2, 1, 7)), network(8, edge(3, 1, 8)), router(4, edge(4, 1, 9)), network(7, back(5)), router(6)), 0,
		at(0), at(1, hop(5, 0)), at(2, hop(5, 0)), at(3, hop(5, 4)), at(4, hop(5, 4)), at(4, hop(5, 4)))
	wantFrom(t, "an edge to a network that says that it is virtual", list(router(1, virtual(1, 1, 5)), network(9, back(2)), router(3)), 0,
		at(0), at(1, hop(5, 0)), at(1, hop(5, 3)))
	wantFrom(t, "a network as root", list(network(1, virtual(1, 2, 5), edge(2, 1, 6)), router(2, edge(3, 1, 7)), network(3, back(3)), router(4)), 0,
		at(0), at(2, virtualHop(5, 2)), at(1, hop(6, 0)), at(1, hop(6, 4)))
}

// TestOrderOfHops: by Out, then Via, then not Virtual ahead of Virtual; each once, whatever the order of edges.
func TestOrderOfHops(t *testing.T) {
	edges := list(edge(1, 1, 5), edge(1, 1, 5), virtual(1, 1, 5), edge(2, 1, 5), edge(3, 1, 4), edge(3, 1, widest), virtual(2, 1, 4), edge(4, 1, 5))
	want := list(hop(4, 1), virtualHop(4, 8), hop(5, 0), hop(5, 8), hop(5, 9), virtualHop(5, 9), hop(widest, 1))
	want2 := slices.Clone(want)
	want2[2] = hop(5, 3) // the network's router
	for range edges {
		edges = append(edges[1:], edges[0])
		for _, l := range list(edges, backwards(edges)) {
			g := list(router(7, l...), router(9, edge(5, 1, 0)), router(8, edge(5, 1, 0)), router(1, edge(5, 1, 0)), network(3, edge(5, 1, 0)), network(6, edge(6, 0, 0)), router(3))
			r := tree.From(g, 0)
			if len(r) != 7 || !sameReach(r[5], at(2, want...)) || !sameReach(r[6], at(2, want2...)) {
				t.Fatalf("P17.1: with edges %v:\n got %+v\nwant %v, %v", l, r, want, want2)
			}
		}
	}
}

func backwards[T any](l []T) []T {
	l = slices.Clone(l)
	slices.Reverse(l)
	return l
}

// TestEqualWays: all of them count, those that end in the same step too.
func TestEqualWays(t *testing.T) {
	wantFrom(t, "two ways", list(router(1, edge(1, 1, 5), edge(2, 2, 6)), router(2, edge(2, 1, 0)), router(3, edge(3, 4, 0)), router(4)), 0,
		at(0), at(1, hop(5, 2)), at(2, hop(5, 2), hop(6, 3)), at(6, hop(5, 2), hop(6, 3)))
	wantFrom(t, "one hop by two ways", list(router(1, edge(1, 1, 5)), router(2, edge(2, 1, 0), edge(3, 1, 0)), router(3, edge(4, 1, 0)), router(4, edge(4, 1, 0)), router(6)), 0,
		at(0), at(1, hop(5, 2)), at(2, hop(5, 2)), at(2, hop(5, 2)), at(3, hop(5, 2)))
	wantFrom(t, "straight, and by a network that has the same cost", list(router(1, edge(1, 3, 5), edge(3, 3, 6)), router(2, edge(2, 1, 0)), router(3), network(4, back(0), back(1))), 0,
		at(0), at(3, hop(5, 2), hop(6, 2)), at(4, hop(5, 2), hop(6, 2)), at(3, hop(6, 0)))
	wantFrom(t, "the root twice at one network", list(router(1, edge(2, 3, 6), edge(2, 3, 5)), router(2), network(4, back(1), back(0))), 0,
		at(0), at(3, hop(5, 2), hop(6, 2)), at(3, hop(5, 0), hop(6, 0)))
	wantFrom(t, "one that is equal, when a shorter one is found", list(router(1, edge(1, 9, 5), edge(2, 1, 6), edge(3, 2, 7)), router(2, edge(4, 1, 0)), router(3, edge(1, 2, 0)), router(4, edge(1, 1, 0)), router(6)), 0,
		at(0), at(3, hop(6, 3), hop(7, 4)), at(1, hop(6, 3)), at(2, hop(7, 4)), at(4, hop(6, 3), hop(7, 4)))
}

// TestNoCost: edges that cost nothing lead round; each way of that Cost counts, however it goes.
func TestNoCost(t *testing.T) {
	wantFrom(t, "a ring", list(router(1, edge(1, 4, 5), edge(3, 4, 6)), router(2, edge(2, 0, 0)), router(3, edge(3, 0, 0)), router(4, edge(1, 0, 0))), 0,
		at(0), at(4, hop(5, 2), hop(6, 4)), at(4, hop(5, 2), hop(6, 4)), at(4, hop(5, 2), hop(6, 4)))
	wantFrom(t, "the last is found late", list(router(1, edge(1, 1, 5), edge(3, 1, 4)), router(2, edge(2, 0, 0)), router(3), router(4, edge(1, 0, 0))), 0,
		at(0), at(1, hop(4, 4), hop(5, 2)), at(1, hop(4, 4), hop(5, 2)), at(1, hop(4, 4)))
	wantFrom(t, "all is 0", list(network(0), router(2, back(0), back(2)), router(3)), 1,
		at(0, hop(0, 0)), at(0), at(0, hop(0, 3)))
	wantFrom(t, "to itself", list(router(1, edge(1, 4, 5)), network(2, back(1), back(2)), router(3, edge(2, 0, 0))), 0,
		at(0), at(4, hop(5, 0)), at(4, hop(5, 3)))
	wantFrom(t, "by a router, and to the network again", list(router(1, edge(1, 4, 5)), network(2, back(2), back(3)), router(3, edge(1, 0, 0)), router(4, edge(1, 1, 0))), 0,
		at(0), at(4, hop(5, 0), hop(5, 3)), at(4, hop(5, 3)), at(4, hop(5, 3), hop(5, 4)))
}

// TestNotBack: a way does not come back to the root, though it were no longer by that.
func TestNotBack(t *testing.T) {
	wantFrom(t, "to itself", list(router(1, edge(0, 0, 4), edge(1, 2, 5)), router(2)), 0, at(0), at(2, hop(5, 2)))
	wantFrom(t, "there and back", list(router(1, edge(1, 0, 4), edge(2, 2, 5)), router(2, edge(0, 0, 6)), router(3)), 0,
		at(0), at(0, hop(4, 2)), at(2, hop(5, 3)))
	wantFrom(t, "by a network", list(router(1, edge(1, 0, 4), edge(2, 2, 5)), network(2, back(0)), router(3)), 0,
		at(0), at(0, hop(4, 0)), at(2, hop(5, 3)))
	wantFrom(t, "a network as root", list(network(1, back(1), back(2)), router(2, edge(0, 0, 6)), router(3, edge(0, 0, 7))), 0,
		at(0), at(0, hop(0, 2)), at(0, hop(0, 3)))
}

func TestJoin(t *testing.T) {
	a, b, c, d, e := hop(1, 0), hop(1, 2), virtualHop(1, 2), hop(1, 3), hop(2, 0)
	for _, x := range []struct {
		what             string
		one, other, want []tree.Hop
	}{
		{"nil and nil", nil, nil, nil},
		{"nothing and nil", list[tree.Hop](), nil, nil},
		{"one and nil", list(b), nil, list(b)},
		{"nil and one", nil, list(b), list(b)},
		{"the same", list(b), list(b), list(b)},
		{"the example", list(b), list(a, b), list(a, b)},
		{"all, each once", list(a, c, e), list(b, c, d), list(a, b, c, d, e)},
		{"out of order", list(e, a, c), list(d, c, b), list(a, b, c, d, e)},
		{"one list out of order", list(e, d, c, b, a), nil, list(a, b, c, d, e)},
		{"one list with one twice", nil, list(b, a, b, b), list(a, b)},
		{"a Virtual ahead of the other", list(c), list(b), list(b, c)},
		{"Via ahead of Virtual", list(d), list(c), list(c, d)},
		{"Out ahead of Via", list(e), list(hop(1, widest)), list(hop(1, widest), e)},
		{"zero", list(tree.Hop{}, virtualHop(0, 0)), list(tree.Hop{}), list(tree.Hop{}, virtualHop(0, 0))},
		{"the largest", list(hop(widest, widest), hop(1<<31, 0)), list(hop(0, widest)), list(hop(0, widest), hop(1<<31, 0), hop(widest, widest))},
	} {
		if got := tree.Join(x.one, x.other); !slices.Equal(got, x.want) {
			t.Errorf("P17.2: %s: %v and %v: got %v, want %v", x.what, x.one, x.other, got, x.want)
		}
	}
}
