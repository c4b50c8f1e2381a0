package inner_test

import (
	"slices"
	"testing"

	"lodestar/api"
	"lodestar/graph"
	"lodestar/inner"
	"lodestar/state"
	"lodestar/tree"
)

// of: a link state as it may be, of that Type, ID and Adv.
func of(t testing.TB, kind uint8, id, adv uint32, b api.Body) api.State {
	t.Helper()
	s, e := state.Encode(api.Head{Type: kind, ID: id, Adv: adv, Seq: 1}, b)
	if e != api.OK {
		t.Fatalf("Encode of Type %d, ID %d, %v: %v", kind, id, b, e)
	}
	return s
}

// router: a RouterState of a router that speaks of itself.
func router(t testing.TB, id uint32, links ...api.Link) api.State {
	t.Helper()
	return flagged(t, id, 0, links...)
}

func flagged(t testing.TB, id uint32, flags uint8, links ...api.Link) api.State {
	t.Helper()
	return of(t, api.RouterState, id, id, api.Body{Flags: flags, Links: links})
}

// network: a NetworkState of 24 bits, that its first router says.
func network(t testing.TB, id uint32, routers ...uint32) api.State {
	t.Helper()
	return of(t, api.NetworkState, id, routers[0], api.Body{Mask: 0xFFFFFF00, Routers: routers})
}

// aged: the state with that Age, which is not summed.
func aged(s api.State, age uint16) api.State {
	s.Head.Age = age
	return s
}

// line: a link to a router; its Data tells it from others.
func line(to, data uint32, cost uint16) api.Link {
	return api.Link{ID: to, Data: data, Type: 1, Cost: cost}
}

// transit: a link to a network.
func transit(to, data uint32, cost uint16) api.Link {
	return api.Link{ID: to, Data: data, Type: 2, Cost: cost}
}

func stub(addr, mask uint32, cost uint16) api.Link {
	return api.Link{ID: addr, Data: mask, Type: 3, Cost: cost}
}

// virtual: a virtual link to a router.
func virtual(to, data uint32, cost uint16) api.Link {
	return api.Link{ID: to, Data: data, Type: 4, Cost: cost}
}

func hop(out, via uint32) tree.Hop { return tree.Hop{Out: out, Via: via} }

func virtualHop(out, via uint32) tree.Hop { return tree.Hop{Out: out, Via: via, Virtual: true} }

// toNet: a way within the area 0 to a prefix.
func toNet(addr uint32, bits uint8, cost uint32, hops ...tree.Hop) inner.Way {
	return inner.Way{Net: api.Prefix{Addr: addr, Bits: bits}, Kind: 1, Cost: cost, Hops: hops}
}

// toRouter: a way within the area 0 to a router.
func toRouter(id, cost uint32, hops ...tree.Hop) inner.Way {
	return inner.Way{Router: id, Kind: 1, Cost: cost, Hops: hops}
}

func list[T any](l ...T) []T { return l }

// sameWay: lists that are nil and empty ones are the same.
func sameWay(a, b inner.Way) bool {
	return a.Net == b.Net && a.Router == b.Router && a.Flags == b.Flags && a.Kind == b.Kind && a.Area == b.Area && a.Cost == b.Cost && a.Far == b.Far && a.Tag == b.Tag && slices.Equal(a.Hops, b.Hops)
}

func sameWays(a, b []inner.Way) bool { return slices.EqualFunc(a, b, sameWay) }

// wantRoutes asks for the ways within the area 0.
func wantRoutes(t *testing.T, what string, l []api.State, root uint32, nets, routers []inner.Way) {
	t.Helper()
	n, r := inner.Routes(l, 0, root)
	if !sameWays(n, nets) {
		t.Errorf("P18.1: %s: nets from %d:\n got %+v\nwant %+v", what, root, n, nets)
	}
	if !sameWays(r, routers) {
		t.Errorf("P18.1: %s: routers from %d:\n got %+v\nwant %+v", what, root, r, routers)
	}
}

// wordsAhead: by Out, then Via, then not Virtual ahead of Virtual.
func wordsAhead(a, b tree.Hop) bool {
	if a.Out != b.Out {
		return a.Out < b.Out
	}
	if a.Via != b.Via {
		return a.Via < b.Via
	}
	return !a.Virtual && b.Virtual
}

// wordsPut: the hops at their places in a list that is in order, each once.
func wordsPut(l []tree.Hop, hops ...tree.Hop) []tree.Hop {
	for _, h := range hops {
		i := 0
		for i < len(l) && wordsAhead(l[i], h) {
			i++
		}
		if i == len(l) || l[i] != h {
			l = slices.Insert(l, i, h)
		}
	}
	return l
}

// claim: one way to a prefix, of those that there are.
type claim struct {
	net  api.Prefix
	cost uint64
	hops []tree.Hop
}

// wordsClaims: all ways to prefixes of nodes that are reached.
func wordsClaims(g []graph.Node, reach []tree.Reach) []claim {
	var l []claim
	for i, r := range reach {
		if r.Is && g[i].Network {
			l = append(l, claim{g[i].Net, uint64(r.Cost), r.Hops})
		}
		for _, s := range g[i].Stubs {
			if sum := uint64(r.Cost) + uint64(s.Cost); r.Is && !g[i].Network && sum < 1<<32 {
				l = append(l, claim{s.Net, sum, r.Hops})
			}
		}
	}
	return l
}

// wordsNets: for each prefix of a claim one way, of the least cost.
func wordsNets(claims []claim, area uint32) []inner.Way {
	var nets []inner.Way
	for i, c := range claims {
		to := func(o claim) bool { return o.net == c.net }
		dearer := func(o claim) bool { return to(o) && o.cost < c.cost }
		if slices.ContainsFunc(claims[:i], to) {
			continue
		}
		for slices.ContainsFunc(claims, dearer) {
			c = claims[slices.IndexFunc(claims, dearer)]
		}
		w := inner.Way{Net: c.net, Kind: 1, Area: area, Cost: uint32(c.cost)}
		for _, o := range claims {
			if to(o) && o.cost == c.cost {
				w.Hops = wordsPut(w.Hops, o.hops...)
			}
		}
		nets = append(nets, w)
	}
	slices.SortFunc(nets, func(a, b inner.Way) int {
		return int(a.Net.Addr)<<6 + int(a.Net.Bits) - int(b.Net.Addr)<<6 - int(b.Net.Bits)
	})
	return nets
}

// wordsRoutes: P18.1, sentence by sentence.
func wordsRoutes(l []api.State, area, root uint32) (nets, routers []inner.Way) {
	g := graph.Build(l)
	at := slices.IndexFunc(g, func(n graph.Node) bool { return !n.Network && n.ID == root })
	if at < 0 {
		return nil, nil
	}
	reach := tree.From(g, at)
	for i, n := range g {
		if !n.Network && n.ID != root && reach[i].Is {
			routers = append(routers, inner.Way{Router: n.ID, Flags: n.Flags, Kind: 1, Area: area, Cost: reach[i].Cost, Hops: reach[i].Hops})
		}
	}
	slices.SortFunc(routers, func(a, b inner.Way) int { return int(a.Router) - int(b.Router) })
	return wordsNets(wordsClaims(g, reach), area), routers
}

// wordsResolve: P18.2.
func wordsResolve(l, transit []inner.Way) []inner.Way {
	var all []inner.Way
	for _, w := range l {
		var hops []tree.Hop
		for _, h := range w.Hops {
			if !h.Virtual {
				hops = wordsPut(hops, h)
				continue
			}
			i := slices.IndexFunc(transit, func(o inner.Way) bool { return o.Router == h.Via })
			if i < 0 {
				continue
			}
			for _, o := range transit[i].Hops {
				if !o.Virtual {
					hops = wordsPut(hops, o)
				}
			}
		}
		if len(w.Hops) > 0 && len(hops) == 0 {
			continue
		}
		w.Hops = hops
		all = append(all, w)
	}
	return all
}
