package between_test

import (
	"testing"

	"lodestar/api"
	"lodestar/between"
	"lodestar/inner"
	"lodestar/tree"
)

// TestImprove: by what the way costs.
func TestImprove(t *testing.T) {
	h, k, m := hop(2, 2), hop(1, 5), hop(3, 6)
	routers := list(toBorder(2, 3, h))
	for _, kind := range list[uint8](1, 2) {
		for _, c := range []struct {
			what string
			cost uint32
			hops []tree.Hop
			want uint32
			then []tree.Hop
		}{
			{"much dearer", widest, list(k), 7, list(h)},
			{"dearer", 8, list(k, m), 7, list(h)},
			{"dearer, at hand", 8, nil, 7, list(h)},
			{"dearer, by that hop, too", 8, list(h, k), 7, list(h)},
			{"as dear", 7, list(k, m), 7, list(k, h, m)},
			{"as dear, at hand", 7, nil, 7, list(h)},
			{"as dear, by that hop", 7, list(h), 7, list(h)},
			{"as dear, out of order", 7, list(m, k, m), 7, list(k, h, m)},
			{"cheaper", 6, list(k, m), 6, list(k, m)},
			{"cheaper, at hand", 6, nil, 6, nil},
			{"cheaper, out of order", 6, list(m, k, m), 6, list(m, k, m)},
			{"of no cost", 0, list(k), 0, list(k)},
		} {
			for _, to := range list(inner.Way{Net: api.Prefix{Addr: ten, Bits: 8}}, inner.Way{Router: 9}) {
				w := to
				w.Flags, w.Kind, w.Cost, w.Far, w.Tag, w.Hops = 255, kind, c.cost, 3, 4, c.hops
				want := w
				want.Cost, want.Hops = c.want, c.then
				wantImproved(t, c.what, w, list(summary(t, ten, mask8, 2, 4), border(t, 9, 2, 4)), routers, want)
			}
		}
	}
	wantImproved(t, "the border is at hand", toNet(ten, 8, 9, k), list(summary(t, ten, mask8, 2, 4)), list(toBorder(2, 0)), toNet(ten, 8, 4))
	wantImproved(t, "the border is at hand, and the way as dear", toNet(ten, 8, 4, k), list(summary(t, ten, mask8, 2, 4)), list(toBorder(2, 0)), toNet(ten, 8, 4, k))
	v := list(h, virtualHop(2, 2))
	wantImproved(t, "Virtual hops stay", toNet(ten, 8, 7, virtualHop(0, 9)), list(summary(t, ten, mask8, 2, 4)), list(toBorder(2, 3, v...)), toNet(ten, 8, 7, virtualHop(0, 9), v[0], v[1]))
}

// TestStays: ways of another Kind or Area, and those to which no summary leads, stay as they are.
func TestStays(t *testing.T) {
	h, k := hop(2, 2), hop(1, 5)
	l, routers := list(summary(t, ten, mask8, 2, 4), border(t, 9, 2, 4)), list(toBorder(2, 3, h))
	for _, cost := range list[uint32](6, 7, 8, widest) {
		for _, kind := range list[uint8](0, 3, 4, 5, 255) {
			w := inner.Way{Net: api.Prefix{Addr: ten, Bits: 8}, Flags: 2, Kind: kind, Cost: cost, Far: 3, Tag: 4, Hops: list(h, k, h)}
			wantImproved(t, "another Kind", w, l, routers, w)
			w.Net, w.Router = api.Prefix{}, 9
			wantImproved(t, "another Kind", w, l, routers, w)
		}
		for _, area := range list[uint32](1, 1<<31, widest) {
			w := inner.Way{Net: api.Prefix{Addr: ten, Bits: 8}, Kind: 1, Area: area, Cost: cost, Hops: list(h, k, h)}
			wantImproved(t, "another Area", w, l, routers, w)
			w.Net, w.Router, w.Kind = api.Prefix{}, 9, 2
			wantImproved(t, "another Area", w, l, routers, w)
		}
		for _, w := range list(toNet(ten, 9, cost, k), toNet(ten, 7, cost, k), toNet(ten+1, 8, cost, k), toNet(ten, 33, cost, k), toNet(0, 0, cost, k), toNet(9, 32, cost, k),
			toBoundary(8, cost, k), toBoundary(10, cost, k), toBoundary(ten, cost, k), toBoundary(2, cost, k)) {
			w.Hops = append(w.Hops, hop(0, 0), k)
			wantImproved(t, "to another end", w, l, routers, w)
		}
		w := toNet(ten, 8, cost, k)
		w.Router = 9
		wantImproved(t, "to no end, as it names a prefix and a router", w, l, routers, w)
	}
}

// TestWhole: ways stay in their order, several to one end, too; each is improved by itself.
func TestWhole(t *testing.T) {
	h2, h3, k := hop(3, 2), hop(2, 3), hop(1, 5)
	routers := list(toBorder(2, 3, h2), toBorder(3, 4, h3), toBorder(4, 9, k))
	l := list(border(t, 9, 2, 4), summary(t, ten, mask8, 3, 3), summary(t, ten, mask16, 4, 0), summary(t, ten, mask8, 2, 4), border(t, 9, 3, 5))
	outer := toNet(ten, 8, 90, k)
	outer.Kind = 3
	ways := list(toNet(ten, 16, 9, h3), toBoundary(9, 9, k), toNet(ten, 8, 9, k), outer, toNet(ten, 8, 7, k), toNet(ten, 24, 9, k), toNet(ten, 8, 9, k), toNet(ten, 8, 6, k), toBoundary(8, 9, k), toBoundary(9, 7, k))
	want := list(toNet(ten, 16, 9, k, h3), toBoundary(9, 7, h2), toNet(ten, 8, 7, h3, h2), outer, toNet(ten, 8, 7, k, h3, h2), toNet(ten, 24, 9, k), toNet(ten, 8, 7, h3, h2), toNet(ten, 8, 6, k), toBoundary(8, 9, k), toBoundary(9, 7, k, h2))
	if got := between.Improve(ways, l, 1, routers); !sameWays(got, want) {
		t.Errorf("P19.2:\n got %+v\nwant %+v", got, want)
	}
}
