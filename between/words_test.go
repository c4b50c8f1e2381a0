package between_test

import (
	"slices"
	"testing"

	"lodestar/api"
	"lodestar/between"
	"lodestar/inner"
	"lodestar/state"
	"lodestar/tree"
)

// of: a link state as it may be, of that Type, ID and Adv.
func of(t testing.TB, kind uint8, id, adv uint32, b api.Body) api.State {
	t.Helper()
	s, e := state.Encode(api.Head{Type: kind, ID: id, Adv: adv, Seq: 1}, b)
	if e != api.OK {
		t.Fatalf("Encode of Type %d, ID %d, %v: %v", kind, id, b, e)
	}
	return s
}

// summary: of the prefix of addr within the mask.
func summary(t testing.TB, addr, mask, adv, metric uint32) api.State {
	t.Helper()
	return of(t, api.SummaryState, addr, adv, api.Body{Mask: mask, Metric: metric})
}

// border: a summary of a boundary router.
func border(t testing.TB, id, adv, metric uint32) api.State {
	t.Helper()
	return of(t, api.BorderState, id, adv, api.Body{Metric: metric})
}

// aged: the state with that Age, which is not summed.
func aged(s api.State, age uint16) api.State {
	s.Head.Age = age
	return s
}

func hop(out, via uint32) tree.Hop { return tree.Hop{Out: out, Via: via} }

func virtualHop(out, via uint32) tree.Hop { return tree.Hop{Out: out, Via: via, Virtual: true} }

// toNet: a way between areas, in the area 0, to a prefix.
func toNet(addr uint32, bits uint8, cost uint32, hops ...tree.Hop) inner.Way {
	return inner.Way{Net: api.Prefix{Addr: addr, Bits: bits}, Kind: 2, Cost: cost, Hops: hops}
}

// toBoundary: a way between areas, in the area 0, to a boundary router.
func toBoundary(id, cost uint32, hops ...tree.Hop) inner.Way {
	return inner.Way{Router: id, Flags: api.FlagE, Kind: 2, Cost: cost, Hops: hops}
}

// toBorder: a way within the area 0 to a router between areas.
func toBorder(id, cost uint32, hops ...tree.Hop) inner.Way {
	return inner.Way{Router: id, Flags: api.FlagB, Kind: 1, Cost: cost, Hops: hops}
}

func list[T any](l ...T) []T { return l }

// sameWay: lists that are nil and empty ones are the same.
func sameWay(a, b inner.Way) bool {
	return a.Net == b.Net && a.Router == b.Router && a.Flags == b.Flags && a.Kind == b.Kind && a.Area == b.Area && a.Cost == b.Cost && a.Far == b.Far && a.Tag == b.Tag && slices.Equal(a.Hops, b.Hops)
}

func sameWays(a, b []inner.Way) bool { return slices.EqualFunc(a, b, sameWay) }

// wantRoutes asks for the ways by the area 0 from router 1.
func wantRoutes(t *testing.T, what string, l []api.State, routers, nets, borders []inner.Way) {
	t.Helper()
	n, b := between.Routes(l, 0, 1, routers)
	if !sameWays(n, nets) {
		t.Errorf("P19.1: %s: nets:\n got %+v\nwant %+v", what, n, nets)
	}
	if !sameWays(b, borders) {
		t.Errorf("P19.1: %s: borders:\n got %+v\nwant %+v", what, b, borders)
	}
}

// wantImproved asks what becomes of one way at router 1.
func wantImproved(t *testing.T, what string, w inner.Way, l []api.State, routers []inner.Way, want inner.Way) {
	t.Helper()
	if got := between.Improve(list(w), l, 1, routers); !sameWays(got, list(want)) {
		t.Errorf("P19.2: %s: %+v:\n got %+v\nwant %+v", what, w, got, want)
	}
}

// wordsAhead: by Out, then Via, then not Virtual ahead of Virtual.
func wordsAhead(a, b tree.Hop) bool {
	if a.Out != b.Out {
		return a.Out < b.Out
	}
	if a.Via != b.Via {
		return a.Via < b.Via
	}
	return !a.Virtual && b.Virtual
}

// wordsPut: the hops at their places in a list that is in order, each once.
func wordsPut(l []tree.Hop, hops ...tree.Hop) []tree.Hop {
	for _, h := range hops {
		i := 0
		for i < len(l) && wordsAhead(l[i], h) {
			i++
		}
		if i == len(l) || l[i] != h {
			l = slices.Insert(l, i, h)
		}
	}
	return l
}

// goal: what a summary leads to; of a router the prefix is zero.
type goal struct {
	net    api.Prefix
	router uint32
}

// claim: a summary that counts and leads somewhere.
type claim struct {
	to   goal
	cost uint64
	hops []tree.Hop
}

// wordsBits: of how many bits that is the mask.
func wordsBits(mask uint32) uint8 {
	n := uint8(0)
	for n < 32 && mask>>(31-n)&1 == 1 {
		n++
	}
	return n
}

// wordsClaims: the chapter's words, one by one.
func wordsClaims(l []api.State, self uint32, routers []inner.Way) []claim {
	var all []claim
	for _, s := range l {
		h := s.Head
		if h.Type != 3 && h.Type != 4 || state.Check(s) != api.OK || h.Age&0x7FFF >= 3600 || h.Adv == self {
			continue
		}
		body, _ := state.Decode(s)
		at := slices.IndexFunc(routers, func(w inner.Way) bool { return w.Router == h.Adv && w.Flags&1 != 0 })
		if body.Metric >= 0xFFFFFF || at < 0 {
			continue
		}
		c := claim{cost: uint64(routers[at].Cost) + uint64(body.Metric), hops: routers[at].Hops}
		if h.Type == 3 {
			c.to.net = api.Prefix{Addr: h.ID & body.Mask, Bits: wordsBits(body.Mask)}
		} else {
			c.to.router = h.ID
		}
		if c.cost < 1<<32 && !(h.Type == 4 && h.ID == 0) {
			all = append(all, c)
		}
	}
	return all
}

// wordsLeast: the least cost of those that lead there, and the hops of all that have it; false, if none leads there.
func wordsLeast(claims []claim, to goal) (claim, bool) {
	least, is := claim{to: to}, false
	for _, c := range claims {
		if c.to == to && (!is || c.cost < least.cost) {
			least.cost, is = c.cost, true
		}
	}
	for _, c := range claims {
		if c.to == to && c.cost == least.cost {
			least.hops = wordsPut(least.hops, c.hops...)
		}
	}
	return least, is
}

// wordsRoutes: P19.1.
func wordsRoutes(l []api.State, area, self uint32, routers []inner.Way) (nets, borders []inner.Way) {
	claims := wordsClaims(l, self, routers)
	for i, c := range claims {
		if slices.ContainsFunc(claims[:i], func(o claim) bool { return o.to == c.to }) {
			continue
		}
		least, _ := wordsLeast(claims, c.to)
		w := inner.Way{Net: c.to.net, Router: c.to.router, Kind: 2, Area: area, Cost: uint32(least.cost), Hops: least.hops}
		switch {
		case w.Router == 0:
			nets = append(nets, w)
		case w.Router != self:
			w.Flags = 2
			borders = append(borders, w)
		}
	}
	slices.SortFunc(nets, func(a, b inner.Way) int {
		return int(a.Net.Addr)<<6 + int(a.Net.Bits) - int(b.Net.Addr)<<6 - int(b.Net.Bits)
	})
	slices.SortFunc(borders, func(a, b inner.Way) int { return int(a.Router) - int(b.Router) })
	return nets, borders
}

// wordsImprove: P19.2.
func wordsImprove(ways []inner.Way, l []api.State, self uint32, routers []inner.Way) []inner.Way {
	claims := wordsClaims(l, self, routers)
	all := slices.Clone(ways)
	for i, w := range all {
		all[i].Hops = slices.Clone(w.Hops)
		if w.Kind != 1 && w.Kind != 2 || w.Area != 0 {
			continue
		}
		least, is := wordsLeast(claims, goal{w.Net, w.Router})
		switch {
		case is && least.cost < uint64(w.Cost):
			all[i].Cost, all[i].Hops = uint32(least.cost), least.hops
		case is && least.cost == uint64(w.Cost):
			all[i].Hops = wordsPut(least.hops, w.Hops...)
		}
	}
	return all
}
