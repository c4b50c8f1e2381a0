package between_test

import (
	"bytes"
	"math"
	"slices"
	"testing"

	"lodestar/api"
	"lodestar/between"
	"lodestar/inner"
	"lodestar/state"
	"lodestar/tree"
)

const (
	ten    = 0x0A000000
	widest = math.MaxUint32
	mask0  = 0
	mask8  = 0xFF000000
	mask16 = 0xFFFF0000
	mask24 = 0xFFFFFF00
)

func TestExamples(t *testing.T) {
	h, k := hop(ten+1, 2), hop(ten+9<<16+1, 5)
	routers := list(toBorder(2, 3, h))
	a := summary(t, ten+2<<16, mask16, 2, 4)
	wantRoutes(t, "the example", list(a), routers, list(toNet(ten+2<<16, 16, 7, h)), nil)
	wantRoutes(t, "of the router itself", list(summary(t, ten+2<<16, mask16, 1, 4)), routers, nil, nil)
	wantRoutes(t, "of one that is not reached", list(summary(t, ten+2<<16, mask16, 3, 4)), routers, nil, nil)
	wantRoutes(t, "Infinity", list(summary(t, ten+2<<16, mask16, 2, api.Infinity)), routers, nil, nil)
	wantRoutes(t, "a boundary router", list(border(t, 9, 2, 1)), routers, nil, list(toBoundary(9, 4, h)))
	wantImproved(t, "the example", toNet(ten+2<<16, 16, 9, k), list(a), routers, toNet(ten+2<<16, 16, 7, h))
	wantImproved(t, "the example", toNet(ten+2<<16, 16, 7, k), list(a), routers, toNet(ten+2<<16, 16, 7, h, k))
}

// TestNothing: nothing comes of nothing.
func TestNothing(t *testing.T) {
	l, routers := list(summary(t, ten, mask8, 2, 4)), list(toBorder(2, 3, hop(1, 2)))
	wantRoutes(t, "no states", nil, routers, nil, nil)
	wantRoutes(t, "no states", []api.State{}, routers, nil, nil)
	wantRoutes(t, "no routers", l, nil, nil, nil)
	wantRoutes(t, "no routers", l, []inner.Way{}, nil, nil)
	wantRoutes(t, "a zero state", list(api.State{}), routers, nil, nil)
	wantRoutes(t, "a zero way", l, list(inner.Way{}), nil, nil)
	if got := between.Improve(nil, l, 1, routers); len(got) != 0 {
		t.Errorf("P19.2: no ways: %+v", got)
	}
	if got := between.Improve([]inner.Way{}, l, 1, routers); len(got) != 0 {
		t.Errorf("P19.2: no ways: %+v", got)
	}
	w := toNet(ten, 8, 9, hop(5, 5))
	wantImproved(t, "no states", w, nil, routers, w)
	wantImproved(t, "no routers", w, l, nil, w)
	wantImproved(t, "nothing at all", inner.Way{}, nil, nil, inner.Way{})
}

// TestArea: each way of Routes has it, as it is handed in; Improve asks for the ways' own.
func TestArea(t *testing.T) {
	l, routers := list(summary(t, ten, mask8, 2, 4), border(t, 9, 2, 4)), list(toBorder(2, 3, hop(1, 2)))
	for _, area := range list[uint32](0, 1, 1<<31, widest) {
		nets, borders := between.Routes(l, area, 1, routers)
		if len(nets) != 1 || len(borders) != 1 || nets[0].Area != area || borders[0].Area != area {
			t.Errorf("P19.1: area %d: %+v, %+v", area, nets, borders)
		}
	}
}

// wantCounts holds Routes and Improve to whether one of these states counts.
func wantCounts(t *testing.T, what string, counts bool, l ...api.State) {
	t.Helper()
	h := hop(1, 2)
	routers := list(toBorder(2, 3, h), toBorder(1, 2, h), toBorder(3, 3))
	for _, s := range l {
		nets, borders := between.Routes(list(s), 0, 1, routers)
		if got := len(nets)+len(borders) == 1; got != counts {
			t.Errorf("P19.1: %s: %+v: %+v, %+v", what, s, nets, borders)
		}
		ways := list(toNet(ten, 8, widest), toBoundary(ten, widest))
		got := between.Improve(ways, list(s), 1, routers)
		if improved := !sameWays(got, ways); improved != counts {
			t.Errorf("P19.2: %s: %+v: %+v", what, s, got)
		}
	}
}

// TestCounts: each rule of what counts, alone, of summaries of both Types.
func TestCounts(t *testing.T) {
	a, b := summary(t, ten, mask8, 2, 4), border(t, ten, 2, 4)
	wantCounts(t, "as it may be", true, a, b)
	for _, age := range list[uint16](0, 1, 3599, api.NoAge, api.NoAge|3599) {
		wantCounts(t, "young enough", true, aged(a, age), aged(b, age))
	}
	for _, age := range list[uint16](3600, 3601, 0x7FFF, api.NoAge|3600, api.NoAge|3601, 0xFFFF) {
		wantCounts(t, "too old", false, aged(a, age), aged(b, age))
	}
	for _, metric := range list[uint32](0, 1, api.MaxMetric, api.MaxMetric+1, api.Infinity-1) {
		wantCounts(t, "below Infinity", true, summary(t, ten, mask8, 2, metric), border(t, ten, 2, metric))
	}
	wantCounts(t, "Infinity", false, summary(t, ten, mask8, 2, api.Infinity), border(t, ten, 2, api.Infinity))
	wantCounts(t, "of the router itself", false, summary(t, ten, mask8, 1, 4), border(t, ten, 1, 4))
	wantCounts(t, "of another one", true, summary(t, ten, mask8, 3, 4), border(t, ten, 3, 4))
	wantCounts(t, "of one to which no way leads", false, summary(t, ten, mask8, 4, 4), border(t, ten, 4, 4))
	out := api.Body{Mask: mask8, Metric: 4}
	wantCounts(t, "of another Type", false, of(t, api.OuterState, ten, 2, out), of(t, api.NSSAState, ten, 2, out),
		of(t, api.NetworkState, ten, 2, api.Body{Mask: mask8, Routers: list[uint32](2)}),
		of(t, api.RouterState, ten, 2, api.Body{Links: list(api.Link{ID: ten, Data: mask8, Type: 3, Cost: 4})}),
		of(t, api.OpaqueArea, ten, 2, api.Body{Data: a.Body}))
}

// TestBroken: what may not be does not count.
func TestBroken(t *testing.T) {
	for _, s := range list(summary(t, ten, mask8, 2, 4), border(t, ten, 2, 4)) {
		change := func(what string, do func(s *api.State)) {
			t.Helper()
			x := s
			x.Body = bytes.Clone(s.Body)
			do(&x)
			wantCounts(t, what, false, x)
		}
		sealed := func(what string, do func(s *api.State)) {
			t.Helper()
			change(what, func(s *api.State) {
				do(s)
				*s, _ = state.Seal(*s)
			})
		}
		change("another sum", func(s *api.State) { s.Head.Sum++ })
		change("the sum 0", func(s *api.State) { s.Head.Sum = 0 })
		change("another metric", func(s *api.State) { s.Body[7]++ })
		change("another length", func(s *api.State) { s.Head.Len++ })
		change("a body that is cut", func(s *api.State) { s.Body = s.Body[:7] })
		change("no body", func(s *api.State) { s.Body = nil })
		sealed("the number that none has", func(s *api.State) { s.Head.Seq = math.MinInt32 })
		sealed("a short body", func(s *api.State) { s.Body = s.Body[:7] })
		sealed("a long body", func(s *api.State) { s.Body = append(s.Body, 0) })
		sealed("no mask", func(s *api.State) { s.Body[2] = 1 })
		sealed("a byte that is 0 else", func(s *api.State) { s.Body[4] = 1 })
		sealed("a Type that is none", func(s *api.State) { s.Head.Type = 6 })
	}
	last := summary(t, ten, mask8, 2, 4)
	for _, seq := range list[int32](api.FirstSeq, -1, 0, api.LastSeq) {
		last.Head.Seq = seq
		last, _ = state.Seal(last)
		wantCounts(t, "a number that may be", true, last)
	}
}

// TestBorders: which way is a summary's border.
func TestBorders(t *testing.T) {
	h, k := hop(1, 2), hop(2, 2)
	l := list(summary(t, ten, mask8, 2, 4), border(t, 9, 2, 4))
	plain := inner.Way{Router: 2, Flags: ^api.FlagB, Kind: 1, Cost: 1, Hops: list(k)}
	all := inner.Way{Router: 2, Flags: 255, Kind: 1, Cost: 3, Hops: list(h)}
	odd := inner.Way{Net: api.Prefix{Addr: ten, Bits: 8}, Router: 2, Flags: api.FlagB, Kind: 4, Area: 7, Cost: 3, Far: 8, Tag: 9, Hops: list(h)}
	nets, borders := list(toNet(ten, 8, 7, h)), list(toBoundary(9, 7, h))
	for _, c := range []struct {
		what    string
		routers []inner.Way
		leads   bool
	}{
		{"one", list(toBorder(2, 3, h)), true},
		{"one with all flags", list(all), true},
		{"one without the flag", list(plain), false},
		{"the first is dearer", list(toBorder(2, 3, h), toBorder(2, 1, k)), true},
		{"the first is cheaper", list(toBorder(2, 3, h), toBorder(2, 9, k)), true},
		{"the first costs as much", list(toBorder(2, 3, h), toBorder(2, 3, k)), true},
		{"the first has no flag", list(plain, toBorder(2, 3, h), plain), true},
		{"others are ahead", list(toBorder(3, 1, k), toBorder(1, 1, k), toBorder(2, 3, h)), true},
		{"only others", list(toBorder(3, 1, k), toBorder(1, 1, k), toBorder(9, 1, k)), false},
		{"what else it has is no matter", list(odd), true},
	} {
		if c.leads {
			wantRoutes(t, c.what, l, c.routers, nets, borders)
		} else {
			wantRoutes(t, c.what, l, c.routers, nil, nil)
		}
	}
	wantRoutes(t, "at hand", l, list(toBorder(2, 0)), list(toNet(ten, 8, 4)), list(toBoundary(9, 4)))
	v := list(virtualHop(1, 2), h, k, h)
	wantRoutes(t, "hops out of order", l, list(toBorder(2, 3, v...)), list(toNet(ten, 8, 7, h, virtualHop(1, 2), k)), list(toBoundary(9, 7, h, virtualHop(1, 2), k)))
	nobody := list(summary(t, ten, mask8, 0, 4))
	wantRoutes(t, "of the router 0, to which no way leads", nobody, list(toBorder(2, 3, h)), nil, nil)
	wantRoutes(t, "of the router 0, to which one leads", nobody, list(toBorder(0, 3, h)), nets, nil)
}

// TestSelf: what self says does not count, and no way leads to it, whatever its ID.
func TestSelf(t *testing.T) {
	h := hop(1, 2)
	routers := list(toBorder(0, 1, h), toBorder(5, 2, h), toBorder(widest, 3, h))
	var l []api.State
	for _, adv := range list[uint32](0, 5, widest) {
		l = append(l, summary(t, ten, mask8, adv, 7), border(t, 5, adv, 7), border(t, widest, adv, 7))
	}
	for _, c := range []struct{ self, net, five, widest uint32 }{{0, 9, 9, 9}, {5, 8, 0, 8}, {widest, 8, 8, 0}, {6, 8, 8, 8}} {
		nets, borders := between.Routes(l, 0, c.self, routers)
		var want []inner.Way
		if c.five > 0 {
			want = append(want, toBoundary(5, c.five, h))
		}
		if c.widest > 0 {
			want = append(want, toBoundary(widest, c.widest, h))
		}
		if !sameWays(nets, list(toNet(ten, 8, c.net, h))) || !sameWays(borders, want) {
			t.Errorf("P19.1: self %d: %+v, %+v", c.self, nets, borders)
		}
	}
	wantImproved(t, "a way to the router itself", toBoundary(1, 9), list(border(t, 1, 5, 3)), routers, toBoundary(1, 5, h))
}

// TestSums: at 2^32 a summary leads nowhere.
func TestSums(t *testing.T) {
	h := hop(1, 2)
	l := func(metric uint32) []api.State {
		return list(summary(t, ten, mask8, 2, metric), border(t, 9, 2, metric))
	}
	for _, c := range []struct {
		cost, metric uint32
		leads        bool
	}{
		{widest, 0, true}, {widest, 1, false}, {widest - 1, 1, true}, {widest - 1, 2, false}, {0, api.Infinity - 1, true},
		{widest - api.Infinity + 1, api.Infinity - 1, true}, {widest - api.Infinity + 2, api.Infinity - 1, false}, {widest, api.Infinity - 1, false}, {0, 0, true},
	} {
		routers := list(toBorder(2, c.cost, h))
		if c.leads {
			wantRoutes(t, "a sum below 2^32", l(c.metric), routers, list(toNet(ten, 8, c.cost+c.metric, h)), list(toBoundary(9, c.cost+c.metric, h)))
			continue
		}
		wantRoutes(t, "a sum of 2^32 or more", l(c.metric), routers, nil, nil)
		w := toNet(ten, 8, widest, hop(5, 5))
		wantImproved(t, "a sum of 2^32 or more", w, l(c.metric), routers, w)
	}
	routers := list(toBorder(2, widest, h), toBorder(3, widest-1, hop(2, 3)))
	both := list(summary(t, ten, mask8, 2, 1), summary(t, ten, mask8, 3, 1))
	wantRoutes(t, "the other one leads there", both, routers, list(toNet(ten, 8, widest, hop(2, 3))), nil)
	wantImproved(t, "the greatest cost", toNet(ten, 8, widest, h), both, routers, toNet(ten, 8, widest, h, hop(2, 3)))
}

// TestEnds: where summaries lead.
func TestEnds(t *testing.T) {
	h := hop(1, 2)
	routers := list(toBorder(2, 3, h))
	for _, c := range []struct {
		id, mask, addr uint32
		bits           uint8
	}{
		{0, mask0, 0, 0}, {widest, mask0, 0, 0}, {ten, mask8, ten, 8}, {ten + 77, mask8, ten, 8}, {ten, mask24, ten, 24}, {0, mask8, 0, 8},
		{widest, widest, widest, 32}, {0, widest, 0, 32}, {widest, 1 << 31, 1 << 31, 1}, {ten + 3, widest - 1, ten + 2, 31},
	} {
		wantRoutes(t, "a prefix", list(summary(t, c.id, c.mask, 2, 4)), routers, list(toNet(c.addr, c.bits, 7, h)), nil)
		wantImproved(t, "a prefix", toNet(c.addr, c.bits, 9), list(summary(t, c.id, c.mask, 2, 4)), routers, toNet(c.addr, c.bits, 7, h))
	}
	wantRoutes(t, "the router 0", list(border(t, 0, 2, 4)), routers, nil, nil)
	for _, id := range list[uint32](2, 3, ten, ten+77, 1<<31, widest) {
		wantRoutes(t, "a router", list(border(t, id, 2, 4)), routers, nil, list(toBoundary(id, 7, h)))
		wantImproved(t, "a router", toBoundary(id, 9), list(border(t, id, 2, 4)), routers, toBoundary(id, 7, h))
	}
	zero := toNet(0, 0, 9, hop(5, 5))
	wantImproved(t, "to the router 0 nothing leads, nor to 0.0.0.0/0 by it", zero, list(border(t, 0, 2, 4)), routers, zero)
	both := list(summary(t, 9, widest, 2, 4), border(t, 9, 2, 1))
	wantRoutes(t, "a prefix and a router of one number", both, routers, list(toNet(9, 32, 7, h)), list(toBoundary(9, 4, h)))
}

// TestLeast: of several to one end the least cost, and the hops of all that have it.
func TestLeast(t *testing.T) {
	h2, h3, h4 := hop(3, 2), hop(2, 3), hop(1, 4)
	routers := list(toBorder(2, 3, h2), toBorder(3, 4, h3), toBorder(4, 5, h4))
	for _, c := range []struct {
		what             string
		two, three, four uint32
		cost             uint32
		hops             []tree.Hop
	}{
		{"the first", 1, 1, 1, 4, list(h2)},
		{"the second", 3, 1, 1, 5, list(h3)},
		{"the last", 4, 3, 1, 6, list(h4)},
		{"the first and the second", 3, 2, 2, 6, list(h3, h2)},
		{"the first and the last", 3, 3, 1, 6, list(h4, h2)},
		{"the last two", 9, 2, 1, 6, list(h4, h3)},
		{"all", 3, 2, 1, 6, list(h4, h3, h2)},
		{"all but what is Infinity", api.Infinity, 2, 1, 6, list(h4, h3)},
	} {
		l := list(summary(t, ten, mask8, 2, c.two), border(t, 9, 2, c.two), summary(t, ten+5, mask8, 3, c.three), border(t, 9, 3, c.three), summary(t, ten+6, mask8, 4, c.four), border(t, 9, 4, c.four))
		for range l {
			l = append(l[1:], l[0])
			wantRoutes(t, c.what, l, routers, list(toNet(ten, 8, c.cost, c.hops...)), list(toBoundary(9, c.cost, c.hops...)))
			wantImproved(t, c.what, toNet(ten, 8, c.cost+1, hop(9, 9)), l, routers, toNet(ten, 8, c.cost, c.hops...))
			wantImproved(t, c.what, toBoundary(9, c.cost, hop(9, 9)), l, routers, toBoundary(9, c.cost, append(slices.Clone(c.hops), hop(9, 9))...))
		}
	}
	a, b := summary(t, ten, mask8, 2, 4), summary(t, ten+1, mask8, 2, 4)
	wantRoutes(t, "twice", list(a, b, a), routers, list(toNet(ten, 8, 7, h2)), nil)
	wantRoutes(t, "two of one key", list(a, summary(t, ten, mask8, 2, 3)), routers, list(toNet(ten, 8, 6, h2)), nil)
	wantRoutes(t, "two of one key", list(a, summary(t, ten, mask16, 2, 3)), routers, list(toNet(ten, 8, 7, h2), toNet(ten, 16, 6, h2)), nil)
	same := list(toBorder(2, 3, h2, h3), toBorder(3, 3, h3, h4), toBorder(4, 3))
	wantRoutes(t, "hops that several have", list(a, summary(t, ten, mask8, 3, 4), summary(t, ten, mask8, 4, 4)), same, list(toNet(ten, 8, 7, h4, h3, h2)), nil)
}

// TestOrder: prefixes by Addr, then Bits, and routers by their IDs, however the list stands.
func TestOrder(t *testing.T) {
	h := hop(1, 2)
	l := list(summary(t, widest, widest, 2, 1), summary(t, ten, mask8, 2, 2), summary(t, 1<<31, 1<<31, 2, 3), summary(t, 0, mask0, 2, 4), summary(t, ten, mask24, 2, 5),
		summary(t, ten+1<<16, mask16, 2, 6), summary(t, ten, mask16, 2, 7), summary(t, 0, mask8, 2, 8), summary(t, 1<<31-1, widest, 2, 9),
		border(t, 1<<31, 2, 1), border(t, 3, 2, 2), border(t, widest, 2, 3), border(t, 1<<31-1, 2, 4), border(t, 2, 2, 5))
	nets := list(toNet(0, 0, 4, h), toNet(0, 8, 8, h), toNet(ten, 8, 2, h), toNet(ten, 16, 7, h), toNet(ten, 24, 5, h), toNet(ten+1<<16, 16, 6, h), toNet(1<<31-1, 32, 9, h), toNet(1<<31, 1, 3, h), toNet(widest, 32, 1, h))
	borders := list(toBoundary(2, 5, h), toBoundary(3, 2, h), toBoundary(1<<31-1, 4, h), toBoundary(1<<31, 1, h), toBoundary(widest, 3, h))
	for range l {
		l = append(l[1:], l[0])
		wantRoutes(t, "in any order", l, list(toBorder(2, 0, h)), nets, borders)
	}
}
