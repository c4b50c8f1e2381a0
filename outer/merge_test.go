package outer_test

import (
	"slices"
	"testing"

	"lodestar/api"
	"lodestar/inner"
	"lodestar/outer"
	"lodestar/tree"
)

// wantBetter holds Better to the order, both ways round.
func wantBetter(t *testing.T, what string, a, b inner.Way, want int) {
	t.Helper()
	if got, turned := outer.Better(a, b), outer.Better(b, a); got != want || turned != -want {
		t.Errorf("P20.2: %s: %+v, %+v: %d, turned round %d; want %d", what, a, b, got, turned, want)
	}
}

func TestBetter(t *testing.T) {
	way := func(kind uint8, far, cost uint32) inner.Way { return inner.Way{Kind: kind, Far: far, Cost: cost} }
	for _, c := range []struct {
		what string
		a, b inner.Way
		want int
	}{
		{"zero ways", inner.Way{}, inner.Way{}, 0},
		{"the same", way(4, 3, 2), way(4, 3, 2), 0},
		{"the lesser Kind", way(1, 9, 9), way(2, 1, 1), -1},
		{"the lesser Kind", way(2, 9, 9), way(3, 1, 1), -1},
		{"the lesser Kind", way(3, 9, widest), way(4, 0, 0), -1},
		{"the least and the greatest Kind", way(0, 9, 9), way(255, 0, 0), -1},
		{"Kinds beyond 127", way(127, 9, 9), way(128, 0, 0), -1},
		{"Kinds beyond those that are", way(4, 9, 9), way(5, 0, 0), -1},
		{"the lesser Far", way(4, 2, 9), way(4, 3, 1), -1},
		{"the least and the greatest Far", way(4, 0, widest), way(4, widest, 0), -1},
		{"Fars beyond 2^31", way(4, 1<<31-1, 9), way(4, 1<<31, 1), -1},
		{"the lesser Cost", way(4, 3, 1), way(4, 3, 2), -1},
		{"the least and the greatest Cost", way(3, 0, 0), way(3, 0, widest), -1},
		{"Costs beyond 2^31", way(1, 0, 1<<31-1), way(1, 0, 1<<31), -1},
	} {
		wantBetter(t, c.what, c.a, c.b, c.want)
	}
	for _, kind := range list[uint8](0, 1, 2, 3, 5, 255) {
		wantBetter(t, "Far counts of Kind 4 alone", way(kind, 1, 7), way(kind, 9, 7), 0)
		wantBetter(t, "Far counts of Kind 4 alone", way(kind, 9, 6), way(kind, 1, 7), -1)
	}
	full := inner.Way{Net: prefixOf(ten, 8), Router: 5, Flags: 2, Kind: 4, Area: 3, Cost: 7, Far: 1, Tag: 4, Hops: list(hop(1, 2))}
	wantBetter(t, "what else ways have is no matter", full, way(4, 1, 7), 0)
	wantBetter(t, "what else ways have is no matter", full, way(4, 1, 8), -1)
}

// TestBetterOrders: Better orders ways of few numbers: it is as the words say, and what is better than a better one is better.
func TestBetterOrders(t *testing.T) {
	var all []inner.Way
	for kind := range uint8(6) {
		for far := range uint32(3) {
			for cost := range uint32(3) {
				all = append(all, inner.Way{Kind: kind, Far: far, Cost: cost})
			}
		}
	}
	for _, a := range all {
		for _, b := range all {
			switch {
			case wordsBetter(a, b):
				wantBetter(t, "as the words say", a, b, -1)
			case !wordsBetter(b, a):
				wantBetter(t, "as the words say", a, b, 0)
			}
			for _, c := range all {
				if outer.Better(a, b) <= 0 && outer.Better(b, c) <= 0 && outer.Better(a, c) > 0 {
					t.Errorf("P20.2: %+v, %+v, %+v: they go round", a, b, c)
				}
			}
		}
	}
}

// TestBest: Routes takes of each prefix the better one; of equal ones the first, with the hops of all.
func TestBest(t *testing.T) {
	h5, h6, h7 := hop(3, 5), hop(2, 6), virtualHop(1, 7)
	routers, nets := list(toBoundary(5, 1, 10, h5), toBoundary(6, 2, 20, h6), toBoundary(7, 0, 20, h7, h6)), list(toNet(ten, 8, 2, 4, hop(9, 0)))
	in := func(area, tag uint32, w inner.Way) inner.Way {
		w.Area, w.Tag = area, tag
		return w
	}
	tagged := func(adv, tag uint32, b api.Body) api.State {
		b.Tag = tag
		return told(t, adv, b)
	}
	for _, c := range []struct {
		what string
		l    []api.State
		want inner.Way
	}{
		{"the lesser sum", list(tagged(5, 1, metric(8)), tagged(6, 2, metric(9)), tagged(7, 3, metric(9))), in(1, 1, toNet(twenty, 8, 3, 18, h5))},
		{"the lesser sum, by the dearer way", list(tagged(5, 1, metric(12)), tagged(6, 2, metric(1))), in(2, 2, toNet(twenty, 8, 3, 21, h6))},
		{"the lesser sum, by a Forward", list(tagged(5, 1, metric(8)), tagged(6, 2, by(metric(13), ten))), in(0, 2, toNet(twenty, 8, 3, 17, hop(9, 0)))},
		{"Type 1 ahead of Type2", list(tagged(5, 1, metric2(0)), tagged(6, 2, metric(9999))), in(2, 2, toNet(twenty, 8, 3, 10019, h6))},
		{"the lesser Far", list(tagged(5, 1, metric2(4)), tagged(6, 2, metric2(3))), in(2, 2, farNet(twenty, 8, 20, 3, h6))},
		{"Fars alike, the lesser Cost", list(tagged(5, 1, metric2(4)), tagged(6, 2, metric2(4))), in(1, 1, farNet(twenty, 8, 10, 4, h5))},
		{"two of one key", list(tagged(5, 1, metric(4)), tagged(5, 2, metric(3))), in(1, 2, toNet(twenty, 8, 3, 13, h5))},
	} {
		for range c.l {
			c.l = append(c.l[1:], c.l[0])
			wantRoutes(t, c.what, c.l, routers, nets, c.want)
		}
	}
	one, two, three := tagged(5, 1, metric(13)), tagged(6, 2, metric(3)), tagged(7, 3, metric(3))
	wantRoutes(t, "equal ones", list(one, two, three), routers, nets, in(1, 1, toNet(twenty, 8, 3, 23, h7, h6, h5)))
	wantRoutes(t, "equal ones", list(two, one), routers, nets, in(2, 2, toNet(twenty, 8, 3, 23, h6, h5)))
	wantRoutes(t, "equal ones", list(three, two), routers, nets, in(0, 3, toNet(twenty, 8, 3, 23, h7, h6)))
	wantRoutes(t, "equal ones, and a dearer one", list(tagged(5, 9, metric(14)), two, three), routers, nets, in(2, 2, toNet(twenty, 8, 3, 23, h7, h6)))
	wantRoutes(t, "twice the same", list(two, two), routers, nets, in(2, 2, toNet(twenty, 8, 3, 23, h6)))
	one, two = tagged(6, 2, metric2(3)), tagged(7, 1, metric2(3))
	wantRoutes(t, "equal ones of Type2", list(one, two), routers, nets, in(2, 2, farNet(twenty, 8, 20, 3, h7, h6)))
	wantRoutes(t, "one at hand, and one that is as good", list(told(t, 5, metric(3)), told(t, 6, metric(3))), list(toBoundary(5, 0, 1), toBoundary(6, 0, 1, h6)), nil, toNet(twenty, 8, 3, 4, h6))
}

func TestMerge(t *testing.T) {
	h, k := hop(2, 5), hop(1, 6)
	wantMerge(t, "nothing", nil, nil)
	wantMerge(t, "nothing", []inner.Way{}, []inner.Way{})
	for _, c := range []struct {
		what        string
		worse, best inner.Way
	}{
		{"Kind", toNet(ten, 8, 2, 1, h), toNet(ten, 8, 1, 99, k)},
		{"Kind", toNet(ten, 8, 3, 1, h), toNet(ten, 8, 2, 99, k)},
		{"Kind", farNet(ten, 8, 1, 1, h), toNet(ten, 8, 3, 99, k)},
		{"Far", farNet(ten, 8, 1, 4, h), farNet(ten, 8, 99, 3, k)},
		{"Cost", farNet(ten, 8, 8, 3, h), farNet(ten, 8, 7, 3, k)},
		{"Cost", toNet(ten, 8, 1, 8, h), toNet(ten, 8, 1, 7, k)},
		{"no prefix, but alike", toNet(ten+1, 40, 1, 8, h), toNet(ten+1, 40, 1, 7, k)},
		{"0.0.0.0/0", toNet(0, 0, 1, 8, h), toNet(0, 0, 1, 7, k)},
	} {
		wantMerge(t, c.what, list(c.worse), list(c.best), c.best)
		wantMerge(t, c.what, list(c.best), list(c.worse), c.best)
		wantMerge(t, c.what, list(c.worse, c.best), nil, c.best)
		wantMerge(t, c.what, nil, list(c.best, c.worse, c.worse), c.best)
		wantMerge(t, c.what, list(c.worse, c.worse), list(c.worse, c.best, c.worse), c.best)
	}
}

// TestMergeEqual: of equal ones the first, with each of its fields, and the hops of all.
func TestMergeEqual(t *testing.T) {
	way := func(n uint32, hops ...tree.Hop) inner.Way {
		return inner.Way{Net: prefixOf(ten, 8), Router: n, Flags: uint8(n), Kind: 3, Area: n, Cost: 7, Far: n, Tag: n, Hops: hops}
	}
	h, k, m, v := hop(2, 5), hop(1, 6), hop(1, 0), virtualHop(1, 6)
	dear := way(9, hop(9, 9))
	dear.Cost = 8
	wantMerge(t, "one of each", list(way(1, h)), list(way(2, k)), way(1, k, h))
	wantMerge(t, "one of each", list(way(2, k)), list(way(1, h)), way(2, k, h))
	wantMerge(t, "several of each", list(dear, way(3, h), way(2, k)), list(way(1, v), dear, way(4, m, h)), way(3, m, k, v, h))
	wantMerge(t, "of the second list alone", nil, list(dear, way(2, h), way(1, m)), way(2, m, h))
	wantMerge(t, "by the same hops", list(way(1, k, h)), list(way(2, k, h)), way(1, k, h))
	wantMerge(t, "the first at hand", list(way(1)), list(way(2, h)), way(1, h))
	wantMerge(t, "the second at hand", list(way(1, h)), list(way(2)), way(1, h))
	wantMerge(t, "both at hand", list(way(1)), list(way(2)), way(1))
	wantMerge(t, "out of order, of two", list(way(1, h, k, h)), list(way(2, h, m)), way(1, m, k, h))
	wantMerge(t, "out of order, of one alone", list(way(1, h, k, h)), list(dear), way(1, h, k, h))
}

// TestMergeOrder: for each prefix one, by Addr, then Bits, however the lists stand; what follows: of unlike prefixes the list.
func TestMergeOrder(t *testing.T) {
	want := list(toNet(0, 0, 4, 9, hop(1, 1)), toNet(0, 8, 1, 8), toNet(0, 32, 3, 7, hop(2, 0), hop(1, 0)), toNet(ten, 8, 2, 6, hop(4, 4)), toNet(ten, 9, 2, 1, hop(4, 4)), toNet(ten, 200, 2, 1, hop(4, 4)),
		toNet(ten+1, 8, 2, 6, hop(5, 5)), toNet(1<<31-1, 32, 1, 5), toNet(1<<31, 1, 1, 4), toNet(widest, 32, 255, 0, hop(6, 6)))
	l := slices.Clone(want)
	for i := range l {
		l = append(l[1:], l[0])
		wantMerge(t, "a list and none", l, nil, want...)
		wantMerge(t, "none and a list", nil, l, want...)
		wantMerge(t, "a list in two parts", l[:i], l[i:], want...)
	}
	slices.Reverse(l)
	wantMerge(t, "turned round", l[3:], l[:3], want...)
}

// TestMergeRouters: ways to routers count for none; what has no Router, or a prefix, is none.
func TestMergeRouters(t *testing.T) {
	zero, to, both := toNet(0, 0, 4, 9, hop(1, 1)), inner.Way{Router: 5, Kind: 1, Cost: 1, Hops: list(hop(2, 5))}, toNet(ten, 8, 1, 1, hop(3, 3))
	both.Router = 5
	wantMerge(t, "to routers alone", list(to), list(to, inner.Way{Router: widest}))
	wantMerge(t, "to 0.0.0.0/0", list(to, zero), list(to), zero)
	wantMerge(t, "a zero way", list(inner.Way{}), list(to), inner.Way{})
	wantMerge(t, "a Router and a prefix", list(to, both), list(toNet(ten, 8, 1, 2)), both)
	bits := inner.Way{Net: prefixOf(0, 1), Router: 5, Kind: 1, Cost: 1}
	wantMerge(t, "a Router and 0.0.0.0/1", list(bits), list(to), bits)
}
