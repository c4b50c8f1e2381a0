package graph_test

import (
	"bytes"
	"math/rand/v2"
	"slices"
	"testing"

	"lodestar/api"
	"lodestar/graph"
	"lodestar/state"
)

// pick: one of them, by chance.
func pick[T any](r *rand.Rand, l ...T) T { return l[r.IntN(len(l))] }

// someID: of few, so that they meet often; some are far apart.
func someID(r *rand.Rand) uint32 { return pick[uint32](r, 0, 1, 2, 3, 4, 1<<31, widest) }

func someLink(r *rand.Rand) api.Link {
	masks := pick[uint32](r, 0, 1, 0xFF000000, 0xFF00FF00, widest, 0x80000000)
	return link(uint8(1+r.IntN(4)), someID(r), masks, uint16(pick(r, 0, 1, 65535)))
}

func someBody(r *rand.Rand, kind uint8) api.Body {
	var b api.Body
	switch kind {
	case api.RouterState:
		b.Flags = uint8(r.IntN(256))
		for range r.IntN(12) {
			b.Links = append(b.Links, someLink(r))
		}
	case api.NetworkState:
		b.Mask = pick[uint32](r, 0, 0xFF000000, 0x80000000, 0xFFFFFFFC, widest)
		for range 1 + r.IntN(6) {
			b.Routers = append(b.Routers, someID(r))
		}
	}
	return b
}

// spoilt: the state, seldom with something wrong, sealed again or not.
func spoilt(r *rand.Rand, s api.State) api.State {
	switch r.IntN(40) {
	case 0:
		s.Head.Sum++
	case 1:
		s.Head.Len++
	case 2:
		s.Head.Seq = -1 << 31
		s, _ = state.Seal(s)
	case 3:
		s.Body = s.Body[:r.IntN(len(s.Body)+1)]
		s, _ = state.Seal(s)
	case 4:
		s.Body = bytes.Clone(s.Body)
		for i := range s.Body {
			s.Body[i] = byte(r.IntN(256))
		}
		s, _ = state.Seal(s)
	}
	return s
}

func someState(t *testing.T, r *rand.Rand) api.State {
	kind := pick(r, api.RouterState, api.RouterState, api.RouterState, api.NetworkState, api.NetworkState, api.SummaryState)
	id := someID(r)
	adv := someID(r)
	if kind == api.RouterState && r.IntN(8) > 0 {
		adv = id
	}
	s := of(t, kind, id, adv, someBody(r, kind))
	return spoilt(r, aged(s, pick[uint16](r, 0, 0, 0, 5, 3599, 3600, 0x8000, 0x8000|3599, 0x8000|3600, 3601)))
}

func someList(t *testing.T, r *rand.Rand) []api.State {
	var l []api.State
	for range r.IntN(24) {
		l = append(l, someState(t, r))
	}
	return l
}

// rounds: how many lists by chance are tried.
func rounds() int {
	if testing.Short() {
		return 2000
	}
	return 20000
}

// TestByChance holds graphs against the chapter's words, and Find against each node.
func TestByChance(t *testing.T) {
	r := rand.New(rand.NewPCG(16, 1))
	kinds := map[[3]bool]int{} // from a network, to one, virtual
	stubs := 0
	for range rounds() {
		l := someList(t, r)
		got, want := graph.Build(l), wordsBuild(l)
		if !sameGraph(got, want) {
			t.Fatalf("P16.1: of %v:\n got %+v\nwant %+v", l, got, want)
		}
		for i, n := range got {
			if at := graph.Find(got, n.Network, n.ID); at != i {
				t.Fatalf("P16.2: node %d of %+v is found at %d", i, got, at)
			}
			for _, e := range n.Edges {
				kinds[[3]bool{n.Network, got[e.To].Network, e.Virtual}]++
			}
			stubs += len(n.Stubs)
		}
	}
	few := rounds() / 10
	if len(kinds) != 4 || stubs < few || slices.Min(list(kinds[[3]bool{}], kinds[[3]bool{true}], kinds[[3]bool{false, true}], kinds[[3]bool{false, false, true}])) < few {
		t.Errorf("too seldom to tell: edges %v, %d stubs", kinds, stubs)
	}
}

// TestTwoByTwo: where one edge leads there is one back, of its kind.
func TestTwoByTwo(t *testing.T) {
	r := rand.New(rand.NewPCG(16, 2))
	for range rounds() {
		g := graph.Build(someList(t, r))
		for i, n := range g {
			for _, e := range n.Edges {
				if e.To == i || e.To < 0 || e.To >= len(g) || n.Network && g[e.To].Network {
					t.Fatalf("P16.1: an edge from %d to %d in %+v", i, e.To, g)
				}
				back := func(b graph.Edge) bool { return b.To == i && b.Virtual == e.Virtual }
				if !slices.ContainsFunc(g[e.To].Edges, back) {
					t.Fatalf("P16.1: no edge back from %d to %d in %+v", e.To, i, g)
				}
			}
		}
	}
}

// TestOrderIsNoMatter: but of states with one key; these keep theirs here.
func TestOrderIsNoMatter(t *testing.T) {
	r := rand.New(rand.NewPCG(16, 3))
	for range rounds() {
		l := someList(t, r)
		byKey := map[api.Key][]api.State{}
		for _, s := range l {
			k := state.Key(s.Head)
			byKey[k] = append(byKey[k], s)
		}
		mixed := slices.Clone(l)
		r.Shuffle(len(mixed), func(i, j int) { mixed[i], mixed[j] = mixed[j], mixed[i] })
		for i, s := range mixed {
			k := state.Key(s.Head)
			mixed[i], byKey[k] = byKey[k][0], byKey[k][1:]
		}
		if a, b := graph.Build(l), graph.Build(mixed); !sameGraph(a, b) {
			t.Fatalf("P16.1: of %v:\n %+v\nmixed:\n %+v", l, a, b)
		}
	}
}

// roomy: the list in memory of its own, with something in its spare room.
func roomy[T any](l []T, spare ...T) []T {
	return slices.Concat(l, spare)[:len(l)]
}

// TestMemory: R5: what is handed in stays as it is, its spare room too, and an answer shares nothing with it or within itself.
func TestMemory(t *testing.T) {
	r := rand.New(rand.NewPCG(16, 4))
	clone := func(l []api.State) []api.State {
		c := slices.Clone(l[:cap(l)])
		for i := range c {
			c[i].Body = bytes.Clone(c[i].Body[:cap(c[i].Body)])
		}
		return c
	}
	for range rounds() / 20 {
		l := roomy(someList(t, r), router(t, 1), network(t, ten, 1, 1))
		for i := range l {
			l[i].Body = roomy(l[i].Body, 7, 8, 9)
		}
		before := clone(l)
		g := graph.Build(l)
		want := wordsBuild(l)
		if !slices.EqualFunc(before, clone(l), func(a, b api.State) bool { return a.Head == b.Head && bytes.Equal(a.Body, b.Body) }) {
			t.Fatal("R5: Build changed its argument")
		}
		for _, s := range l {
			clear(s.Body[:cap(s.Body)])
		}
		clear(l[:cap(l)])
		for i := range g {
			if !sameNode(g[i], want[i]) {
				t.Fatalf("R5: node %d of %+v is no more what it was", i, want)
			}
			clear(g[i].Edges[:cap(g[i].Edges)])
			clear(g[i].Stubs[:cap(g[i].Stubs)])
		}
	}
}

// TestFindKeeps: R5: Find changes nothing.
func TestFindKeeps(t *testing.T) {
	g, same := graph.Build(example(t)), graph.Build(example(t))
	graph.Find(g, true, ten)
	graph.Find(g, false, 77)
	if !sameGraph(g, same) {
		t.Errorf("R5: Find made of %+v %+v", same, g)
	}
}

// TestLargest: R1: states as large as may be, each link of which is asked for one back, and as many states as a router may have.
func TestLargest(t *testing.T) {
	const links = (65535 - 24) / 12
	one, two := make([]api.Link, links), make([]api.Link, links)
	for i := range links {
		one[i] = link(1, 2, uint32(i), uint16(i))
		two[i] = link(4, 1, uint32(i), uint16(i))
	}
	two[links-1].Type = 1
	g := graph.Build(list(router(t, 1, one...), router(t, 2, two...)))
	if len(g) != 2 || len(g[0].Edges) != links || len(g[1].Edges) != 1 || g[0].Edges[links-1] != edge(1, links-1, links-1) {
		t.Error("P16.1: not all links of a large router are edges")
	}

	var all []api.State
	var ids []uint32
	for i := uint32(api.MaxStates - 1); i > 0; i-- {
		ids = append(ids, i)
		all = append(all, router(t, i, link(2, ten, i, 1)))
	}
	g = graph.Build(append(all, network(t, ten, 1, ids...)))
	if len(g) != api.MaxStates || len(g[api.MaxStates-1].Edges) != len(ids) || g[api.MaxStates-1].Edges[0].To != len(ids)-1 {
		t.Error("P16.1: not all routers of a large network are nodes, with edges")
	}
}
