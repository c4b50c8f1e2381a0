package tree_test

import (
	"math/rand/v2"
	"slices"
	"testing"

	"lodestar/graph"
	"lodestar/tree"
)

// pick: one of them, by chance.
func pick[T any](r *rand.Rand, l ...T) T { return l[r.IntN(len(l))] }

// someCosts: of few, so that sums meet often; some are such that they go round.
func someCosts(r *rand.Rand) []uint32 {
	return pick(r, list[uint32](1, 2, 3), list[uint32](0, 1), list[uint32](0), list[uint32](0, 1, 1<<31, widest-1, widest), list[uint32](1))
}

func someEdge(r *rand.Rand, nodes int, costs []uint32) graph.Edge {
	e := graph.Edge{To: r.IntN(nodes), Cost: pick(r, costs...), Data: uint32(r.IntN(3)), Virtual: r.IntN(4) == 0}
	if r.IntN(30) == 0 {
		e.To = pick(r, -1, nodes, nodes+1)
	}
	return e
}

// someGraph: of that many nodes, of any kind, with edges of any kind.
func someGraph(r *rand.Rand, nodes int) []graph.Node {
	costs := someCosts(r)
	g := make([]graph.Node, nodes)
	for i := range g {
		g[i] = graph.Node{Network: r.IntN(2) == 0, ID: uint32(1 + r.IntN(2*nodes))}
		if r.IntN(60) == 0 {
			g[i].ID = 0
		}
		for range r.IntN(4) {
			g[i].Edges = append(g[i].Edges, someEdge(r, nodes, costs))
		}
	}
	return g
}

// rounds: how many graphs by chance are tried.
func rounds() int {
	if testing.Short() {
		return 5000
	}
	return 60000
}

// TestByChance holds From against the chapter's words.
func TestByChance(t *testing.T) {
	r := rand.New(rand.NewPCG(17, 1))
	several, unreached, nothing := 0, 0, 0
	for range rounds() {
		g := someGraph(r, 1+r.IntN(7))
		root := r.IntN(len(g))
		got, want := tree.From(g, root), wordsFrom(g, root)
		if !sameTree(got, want) {
			t.Fatalf("P17.1: from %d of %+v:\n got %+v\nwant %+v", root, g, got, want)
		}
		if len(want) == 0 {
			nothing++
		}
		for _, x := range want {
			if len(x.Hops) > 1 {
				several++
			}
			if !x.Is {
				unreached++
			}
		}
	}
	if few := rounds() / 20; several < few || unreached < few || nothing < few/10 {
		t.Errorf("too seldom to tell: %d nodes have several hops, %d none, %d graphs nothing", several, unreached, nothing)
	}
}

// onward: the hop of a way that goes on by the edge.
func onward(g []graph.Node, h tree.Hop, e graph.Edge) tree.Hop {
	return wordsGoOn(g, way{hop: h}, e).hop
}

// TestEdgeByEdge: in larger graphs no edge makes a way shorter, each one that is as short hands on all hops, and each hop comes by such a one.
func TestEdgeByEdge(t *testing.T) {
	r := rand.New(rand.NewPCG(17, 2))
	for range rounds() / 10 {
		g := someGraph(r, 10+r.IntN(60))
		root := r.IntN(len(g))
		reach := tree.From(g, root)
		if len(reach) == 0 {
			continue
		}
		come := make([][]tree.Hop, len(g)) // by edges that are as short
		for i, n := range g {
			for _, e := range n.Edges {
				if !reach[i].Is || e.To < 0 || e.To >= len(g) || e.To == root {
					continue
				}
				sum, to := uint64(reach[i].Cost)+uint64(e.Cost), reach[e.To]
				if sum < 1<<32 && (!to.Is || sum < uint64(to.Cost)) {
					t.Fatalf("P17.1: from %d to %d there is a way of cost %d, not %+v, in %+v", root, e.To, sum, to, g)
				}
				if sum != uint64(to.Cost) || !to.Is {
					continue
				}
				if i == root {
					come[e.To] = append(come[e.To], wordsBegin(g, e).hop)
				}
				for _, h := range reach[i].Hops {
					come[e.To] = append(come[e.To], onward(g, h, e))
				}
			}
		}
		for i, x := range reach {
			if i == root {
				continue
			}
			if want := wordsJoin(come[i], nil); !slices.Equal(x.Hops, want) || x.Is != (len(x.Hops) > 0) || !x.Is && x.Cost != 0 {
				t.Fatalf("P17.1: from %d to %d: got %+v, but %v come there, in %+v", root, i, x, want, g)
			}
		}
	}
}

func someHops(r *rand.Rand) []tree.Hop {
	var l []tree.Hop
	for range r.IntN(9) {
		l = append(l, tree.Hop{Out: pick[uint32](r, 0, 1, 2, widest), Via: pick[uint32](r, 0, 1, 2, widest), Virtual: r.IntN(2) == 0})
	}
	return l
}

// TestJoinByChance holds Join against the chapter's words; the order of the two is no matter, and what is joined again stays so.
func TestJoinByChance(t *testing.T) {
	r := rand.New(rand.NewPCG(17, 3))
	for range rounds() {
		a, b := someHops(r), someHops(r)
		got, want := tree.Join(a, b), wordsJoin(a, b)
		if !slices.Equal(got, want) {
			t.Fatalf("P17.2: %v and %v: got %v, want %v", a, b, got, want)
		}
		if !slices.Equal(tree.Join(b, a), want) || !slices.Equal(tree.Join(got, a), want) {
			t.Fatalf("P17.2: %v and %v: joined otherwise they are not %v", a, b, want)
		}
	}
}

// roomy: the list in memory of its own, with something in its spare room.
func roomy[T any](l []T, spare ...T) []T { return slices.Concat(l, spare)[:len(l)] }

// TestMemory: R5: what is handed in stays as it is, its spare room too, and the lists of an answer share nothing.
func TestMemory(t *testing.T) {
	r := rand.New(rand.NewPCG(17, 4))
	clone := func(g []graph.Node) []graph.Node {
		c := slices.Clone(g[:cap(g)])
		for i := range c {
			c[i].Edges = slices.Clone(c[i].Edges[:cap(c[i].Edges)])
		}
		return c
	}
	same := func(a, b graph.Node) bool {
		return a.Network == b.Network && a.ID == b.ID && slices.Equal(a.Edges, b.Edges)
	}
	for range rounds() / 10 {
		g := roomy(someGraph(r, 1+r.IntN(7)), router(7), network(8))
		for i := range g {
			g[i].Edges = roomy(g[i].Edges, edge(0, 1, 9), virtual(1, 2, 8))
		}
		before, root := clone(g), r.IntN(len(g))
		want := wordsFrom(g, root)
		got := tree.From(g, root)
		if !slices.EqualFunc(before, clone(g), same) {
			t.Fatal("R5: From changed its argument")
		}
		for i, x := range got {
			if !sameReach(x, want[i]) {
				t.Fatalf("R5: node %d is no more %+v but %+v", i, want[i], x)
			}
			clear(x.Hops[:cap(x.Hops)])
		}
	}
}

// TestJoinMemory: R5, of Join.
func TestJoinMemory(t *testing.T) {
	r := rand.New(rand.NewPCG(17, 5))
	for range rounds() {
		a, b := roomy(someHops(r), hop(7, 7), hop(8, 8)), roomy(someHops(r), hop(9, 9))
		wasA, wasB := slices.Clone(a[:cap(a)]), slices.Clone(b[:cap(b)])
		got, want := tree.Join(a, b), wordsJoin(a, b)
		if !slices.Equal(a[:cap(a)], wasA) || !slices.Equal(b[:cap(b)], wasB) {
			t.Fatalf("R5: Join made of %v %v, and of %v %v", wasA, a[:cap(a)], wasB, b[:cap(b)])
		}
		clear(a[:cap(a)])
		clear(b[:cap(b)])
		if !slices.Equal(got, want) {
			t.Fatalf("R5: %v is no more %v", got, want)
		}
		for i := range cap(got) {
			got[:cap(got)][i] = hop(5, 5)
		}
		if slices.Contains(a[:cap(a)], hop(5, 5)) || slices.Contains(b[:cap(b)], hop(5, 5)) {
			t.Fatal("R5: an answer of Join shares memory with its argument")
		}
	}
}

// TestLargest: R1: long lines, wide networks, and rings that cost nothing.
func TestLargest(t *testing.T) {
	const many = 1 << 16
	line := make([]graph.Node, many)
	for i := range line {
		line[i] = router(uint32(i+1), edge(i-1, 0, 1), edge(i+1, 1, 2))
	}
	if r := tree.From(line, 0); len(r) != many || !sameReach(r[many-1], at(many-1, hop(2, 2))) {
		t.Error("P17.1: the end of a long line is not reached")
	}
	if r := tree.From(line, many-1); len(r) != many || !sameReach(r[0], at(0, hop(1, many-1))) {
		t.Error("P17.1: the beginning of a long line is not reached")
	}

	wide := list(network(9))
	for i := range uint32(many) {
		wide = append(wide, router(i+1, edge(0, 1, i)))
		wide[0].Edges = append(wide[0].Edges, back(int(i+1)))
	}
	if r := tree.From(wide, 1); len(r) != many+1 || !sameReach(r[many], at(1, hop(0, many))) || !sameReach(r[0], at(1, hop(0, 0))) {
		t.Error("P17.1: the last router of a wide network is not reached")
	}

	const few = 500
	ring := list(router(few + 1))
	for i := range few {
		ring[0].Edges = append(ring[0].Edges, edge(i+1, 1, uint32(few-i)))
		ring = append(ring, router(uint32(i+1), edge((i+1)%few+1, 0, 0), edge((i+few-1)%few+1, 0, 0)))
	}
	for i, x := range tree.From(ring, 0)[1:] {
		if x.Cost != 1 || len(x.Hops) != few || x.Hops[0] != hop(1, few) || x.Hops[few-1] != hop(few, 1) {
			t.Fatalf("P17.1: node %d of a ring has %d hops", i+1, len(x.Hops))
		}
	}
}

// TestWide: R1: layers of routers, each with edges to all of the next, so that hops come to each by many ways.
func TestWide(t *testing.T) {
	const wide, deep = 64, 20
	all := func(first int) []graph.Edge {
		var l []graph.Edge
		for i := range wide {
			l = append(l, edge(first+i, 1, uint32(i)))
		}
		return l
	}
	g := list(router(1, all(1)...))
	for layer := range deep {
		for range wide {
			id := uint32(len(g) + 1)
			g = append(g, router(id, all(1+(layer+1)*wide)...)) // the last layer's lead nowhere
		}
	}
	r := tree.From(g, 0)
	if len(r) != len(g) {
		t.Fatalf("P17.1: %d nodes of %d", len(r), len(g))
	}
	for i, x := range r[1+wide:] {
		if x.Cost != uint32(2+i/wide) || len(x.Hops) != wide || x.Hops[0] != hop(0, 2) || x.Hops[wide-1] != hop(wide-1, wide+1) {
			t.Fatalf("P17.1: node %d has the cost %d and %d hops", 1+wide+i, x.Cost, len(x.Hops))
		}
	}
}
