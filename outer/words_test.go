package outer_test

import (
	"math"
	"slices"
	"testing"

	"lodestar/api"
	"lodestar/inner"
	"lodestar/outer"
	"lodestar/state"
	"lodestar/tree"
)

const (
	ten    = 0x0A000000
	twenty = 0x14000000
	widest = math.MaxUint32
	mask0  = 0
	mask8  = 0xFF000000
	mask16 = 0xFFFF0000
	mask24 = 0xFFFFFF00
)

// of: a link state as it may be, of that Type, ID and Adv, with the options opts.
func of(t testing.TB, kind, opts uint8, id, adv uint32, b api.Body) api.State {
	t.Helper()
	s, e := state.Encode(api.Head{Type: kind, Opts: opts, ID: id, Adv: adv, Seq: 1}, b)
	if e != api.OK {
		t.Fatalf("Encode of Type %d, ID %d, %v: %v", kind, id, b, e)
	}
	return s
}

// told: a route of the router adv to 20.0.0.0/8, as an OuterState.
func told(t testing.TB, adv uint32, b api.Body) api.State {
	t.Helper()
	b.Mask = mask8
	return of(t, api.OuterState, 0, twenty, adv, b)
}

// metric: of Type 1, without a Forward.
func metric(n uint32) api.Body { return api.Body{Metric: n} }

// metric2: of Type 2, without a Forward.
func metric2(n uint32) api.Body { return api.Body{Metric: n, Type2: true} }

// by: the body, with that Forward.
func by(b api.Body, forward uint32) api.Body {
	b.Forward = forward
	return b
}

// aged: the state with that Age, which is not summed.
func aged(s api.State, age uint16) api.State {
	s.Head.Age = age
	return s
}

func hop(out, via uint32) tree.Hop { return tree.Hop{Out: out, Via: via} }

func virtualHop(out, via uint32) tree.Hop { return tree.Hop{Out: out, Via: via, Virtual: true} }

// toBoundary: a way within an area to a boundary router.
func toBoundary(id, area, cost uint32, hops ...tree.Hop) inner.Way {
	return inner.Way{Router: id, Flags: api.FlagE, Kind: 1, Area: area, Cost: cost, Hops: hops}
}

// over: the way, but between areas.
func over(w inner.Way) inner.Way {
	w.Kind = 2
	return w
}

func prefixOf(addr uint32, bits uint8) api.Prefix { return api.Prefix{Addr: addr, Bits: bits} }

// toNet: a way of that Kind, in the area 0, to a prefix.
func toNet(addr uint32, bits, kind uint8, cost uint32, hops ...tree.Hop) inner.Way {
	return inner.Way{Net: prefixOf(addr, bits), Kind: kind, Cost: cost, Hops: hops}
}

// farNet: a way of Kind 4, in the area 0, to a prefix.
func farNet(addr uint32, bits uint8, cost, far uint32, hops ...tree.Hop) inner.Way {
	return inner.Way{Net: prefixOf(addr, bits), Kind: 4, Cost: cost, Far: far, Hops: hops}
}

func list[T any](l ...T) []T { return l }

// sameWay: lists that are nil and empty ones are the same.
func sameWay(a, b inner.Way) bool {
	return a.Net == b.Net && a.Router == b.Router && a.Flags == b.Flags && a.Kind == b.Kind && a.Area == b.Area && a.Cost == b.Cost && a.Far == b.Far && a.Tag == b.Tag && slices.Equal(a.Hops, b.Hops)
}

func sameWays(a, b []inner.Way) bool { return slices.EqualFunc(a, b, sameWay) }

// wantRoutes asks router 1 for the ways by OuterStates.
func wantRoutes(t *testing.T, what string, l []api.State, routers, nets []inner.Way, want ...inner.Way) {
	t.Helper()
	if got := outer.Routes(l, 1, false, routers, nets); !sameWays(got, want) {
		t.Errorf("P20.1: %s:\n got %+v\nwant %+v", what, got, want)
	}
}

// wantMerge asks for the ways of both lists.
func wantMerge(t *testing.T, what string, a, b []inner.Way, want ...inner.Way) {
	t.Helper()
	if got := outer.Merge(a, b); !sameWays(got, want) {
		t.Errorf("P20.3: %s:\n got %+v\nwant %+v", what, got, want)
	}
}

// wordsAhead: by Out, then Via, then not Virtual ahead of Virtual.
func wordsAhead(a, b tree.Hop) bool {
	if a.Out != b.Out {
		return a.Out < b.Out
	}
	if a.Via != b.Via {
		return a.Via < b.Via
	}
	return !a.Virtual && b.Virtual
}

// wordsPut: the hops at their places in a list that is in order, each once.
func wordsPut(l []tree.Hop, hops ...tree.Hop) []tree.Hop {
	for _, h := range hops {
		i := 0
		for i < len(l) && wordsAhead(l[i], h) {
			i++
		}
		if i == len(l) || l[i] != h {
			l = slices.Insert(l, i, h)
		}
	}
	return l
}

// wordsBits: of how many bits that is the mask.
func wordsBits(mask uint32) uint8 {
	n := uint8(0)
	for n < 32 && mask>>(31-n)&1 == 1 {
		n++
	}
	return n
}

// wordsCounts: whether a route of those counts, but for its Type.
func wordsCounts(s api.State, self uint32) bool {
	h := s.Head
	if state.Check(s) != api.OK || h.Age&0x7FFF >= 3600 || h.Adv == self {
		return false
	}
	body, _ := state.Decode(s)
	if h.Type == 7 && body.Mask == 0 && h.Opts&8 == 0 {
		return false
	}
	return body.Metric < 0xFFFFFF
}

// wordsToRouter: the way to a router, told by leaving out, step by step, what the chapter's words leave out.
func wordsToRouter(routers []inner.Way, id uint32) (inner.Way, bool) {
	var l []inner.Way
	for _, w := range routers {
		if w.Router == id && id != 0 && w.Net == prefixOf(0, 0) && w.Flags&2 == 2 {
			l = append(l, w)
		}
	}
	inside := func(w inner.Way) bool { return w.Kind == 1 && w.Area != 0 }
	if slices.ContainsFunc(l, inside) {
		l = slices.DeleteFunc(l, func(w inner.Way) bool { return !inside(w) })
	}
	for _, w := range l {
		l = slices.DeleteFunc(slices.Clone(l), func(o inner.Way) bool { return o.Cost > w.Cost })
	}
	for _, w := range l {
		l = slices.DeleteFunc(slices.Clone(l), func(o inner.Way) bool { return o.Area < w.Area })
	}
	if len(l) == 0 {
		return inner.Way{}, false
	}
	return l[0], true
}

// wordsHas: are the address's first Bits the prefix's?
func wordsHas(p api.Prefix, addr uint32) bool {
	if p.Bits > 32 {
		return false
	}
	behind := uint32(1<<(32-uint64(p.Bits)) - 1)
	return addr&^behind == p.Addr
}

// wordsToAddr: the way to an address.
func wordsToAddr(nets []inner.Way, addr uint32) (inner.Way, bool) {
	at := -1
	for i, w := range nets {
		leads := w.Net != prefixOf(0, 0) || w.Router == 0
		if leads && (w.Kind == 1 || w.Kind == 2) && wordsHas(w.Net, addr) && (at < 0 || nets[at].Net.Bits < w.Net.Bits) {
			at = i
		}
	}
	if at < 0 {
		return inner.Way{}, false
	}
	return nets[at], true
}

// wordsLeads: where a route that counts leads; false: nowhere.
func wordsLeads(s api.State, routers, nets []inner.Way) (inner.Way, bool) {
	body, _ := state.Decode(s)
	near, is := wordsToRouter(routers, s.Head.Adv)
	if is && body.Forward != 0 {
		near, is = wordsToAddr(nets, body.Forward)
	}
	w := inner.Way{Net: prefixOf(s.Head.ID&body.Mask, wordsBits(body.Mask)), Area: near.Area, Tag: body.Tag, Hops: near.Hops}
	if body.Type2 {
		w.Kind, w.Cost, w.Far = 4, near.Cost, body.Metric
		return w, is
	}
	sum := uint64(near.Cost) + uint64(body.Metric)
	w.Kind, w.Cost = 3, uint32(sum)
	return w, is && sum < 1<<32
}

// wordsBetter: P20.2: is a better than b?
func wordsBetter(a, b inner.Way) bool {
	switch {
	case a.Kind != b.Kind:
		return a.Kind < b.Kind
	case a.Kind == 4 && a.Far != b.Far:
		return a.Far < b.Far
	}
	return a.Cost < b.Cost
}

// wordsBest: of all ways to each prefix the best, each prefix in its turn.
func wordsBest(l []inner.Way) []inner.Way {
	var all []inner.Way
	for i, w := range l {
		same := 0
		bettered, first := false, true
		var hops []tree.Hop
		for j, o := range l {
			switch {
			case o.Net != w.Net:
			case wordsBetter(o, w):
				bettered = true
			case !wordsBetter(w, o):
				same++
				first = first && j >= i
				hops = wordsPut(hops, o.Hops...)
			}
		}
		if bettered || !first {
			continue
		}
		if same > 1 {
			w.Hops = hops
		} else {
			w.Hops = slices.Clone(w.Hops)
		}
		all = append(all, w)
	}
	slices.SortFunc(all, func(a, b inner.Way) int {
		return int(a.Net.Addr)<<8 + int(a.Net.Bits) - int(b.Net.Addr)<<8 - int(b.Net.Bits)
	})
	return all
}

// wordsRoutes: P20.1.
func wordsRoutes(l []api.State, self uint32, nssa bool, routers, nets []inner.Way) []inner.Way {
	kind := uint8(5)
	if nssa {
		kind = 7
	}
	var all []inner.Way
	for _, s := range l {
		if s.Head.Type != kind || !wordsCounts(s, self) {
			continue
		}
		if w, leads := wordsLeads(s, routers, nets); leads {
			all = append(all, w)
		}
	}
	return wordsBest(all)
}

// wordsMerge: P20.3.
func wordsMerge(a, b []inner.Way) []inner.Way {
	var l []inner.Way
	for _, w := range append(slices.Clone(a), b...) {
		if w.Net != prefixOf(0, 0) || w.Router == 0 {
			l = append(l, w)
		}
	}
	return wordsBest(l)
}
