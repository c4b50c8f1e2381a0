package outer_test

import (
	"bytes"
	"math"
	"testing"

	"lodestar/api"
	"lodestar/inner"
	"lodestar/outer"
	"lodestar/state"
	"lodestar/tree"
)

func TestExamples(t *testing.T) {
	h, k := hop(ten+1, 5), hop(ten+2, 6)
	routers, nets := list(toBoundary(5, 0, 10, h)), list(toNet(ten, 8, 2, 4, k))
	wantRoutes(t, "the example", list(told(t, 5, metric(3))), routers, nets, toNet(twenty, 8, 3, 13, h))
	wantRoutes(t, "Type2", list(told(t, 5, metric2(3))), routers, nets, farNet(twenty, 8, 10, 3, h))
	wantRoutes(t, "Forward 10.1.1.1", list(told(t, 5, by(metric2(3), 0x0A010101))), routers, nets, farNet(twenty, 8, 4, 3, k))
	wantRoutes(t, "Forward 11.1.1.1", list(told(t, 5, by(metric2(3), 0x0B010101))), routers, nets)
	wantRoutes(t, "of one to which no way leads", list(told(t, 6, metric(3))), routers, nets)
}

// TestNothing: nothing comes of nothing.
func TestNothing(t *testing.T) {
	l, routers, nets := list(told(t, 5, metric(3))), list(toBoundary(5, 0, 10, hop(1, 5))), list(toNet(ten, 8, 1, 4, hop(2, 6)))
	for _, nssa := range list(false, true) {
		for _, got := range [][]inner.Way{
			outer.Routes(nil, 1, nssa, routers, nets),
			outer.Routes([]api.State{}, 1, nssa, routers, nets),
			outer.Routes(list(api.State{}), 1, nssa, routers, nets),
			outer.Routes(l, 1, nssa, nil, nets),
			outer.Routes(l, 1, nssa, []inner.Way{}, nets),
			outer.Routes(l, 1, nssa, list(inner.Way{}), nets),
			outer.Routes(list(told(t, 5, by(metric(3), ten+1))), 1, nssa, routers, nil),
			outer.Routes(list(told(t, 5, by(metric(3), ten+1))), 1, nssa, routers, []inner.Way{}),
			outer.Routes(nil, 0, nssa, nil, nil),
		} {
			if len(got) != 0 {
				t.Errorf("P20.1: nssa %t: %+v", nssa, got)
			}
		}
	}
	way := toNet(twenty, 8, 3, 13, hop(1, 5))
	wantRoutes(t, "no nets", l, routers, nil, way)
	wantRoutes(t, "no nets", l, routers, []inner.Way{}, way)
	wantRoutes(t, "a zero state, too", append(l, api.State{}), append(routers, inner.Way{}), append(nets, inner.Way{}), way)
}

// TestRoute: each field of a way to another system; what the near way has else is no matter.
func TestRoute(t *testing.T) {
	h, k := hop(1, 5), virtualHop(2, 0)
	near := inner.Way{Router: 5, Flags: 255, Kind: 1, Area: 7, Cost: 10, Far: 11, Tag: 12, Hops: list(h, k)}
	net := inner.Way{Net: prefixOf(ten, 8), Router: 3, Flags: 255, Kind: 2, Area: 9, Cost: 20, Far: 21, Tag: 22, Hops: list(k)}
	for _, tag := range list[uint32](0, 1, widest) {
		for _, c := range []struct {
			type2 bool
			want  inner.Way
		}{
			{false, inner.Way{Net: prefixOf(twenty, 8), Kind: 3, Cost: 13, Tag: tag}},
			{true, inner.Way{Net: prefixOf(twenty, 8), Kind: 4, Cost: 10, Far: 3, Tag: tag}},
		} {
			b := api.Body{Type2: c.type2, Metric: 3, Tag: tag}
			want := c.want
			want.Area, want.Hops = 7, near.Hops
			wantRoutes(t, "by the way to its router", list(told(t, 5, b)), list(near), list(net), want)
			want.Area, want.Hops, want.Cost = 9, net.Hops, want.Cost+10
			wantRoutes(t, "by the way to an address", list(told(t, 5, by(b, ten+1))), list(near), list(net), want)
		}
	}
}

// TestHops: a way has the near way's hops, whatever they are.
func TestHops(t *testing.T) {
	zero, out, virtual := hop(1, 0), hop(3, 5), virtualHop(2, 6)
	l := list(told(t, 5, by(metric(3), ten+9)))
	for _, hops := range [][]tree.Hop{nil, {zero}, {zero, hop(1, 5)}, {virtual, hop(2, 7), hop(3, 0), out}} {
		want := toNet(twenty, 8, 3, 13, hops...)
		wantRoutes(t, "of the way to its router", list(told(t, 5, metric(3))), list(toBoundary(5, 0, 10, hops...)), nil, want)
		wantRoutes(t, "of the way to an address", l, list(toBoundary(5, 0, 1, out)), list(toNet(ten, 8, 1, 10, hops...)), want)
	}
	wantRoutes(t, "a hop whose Via is 0 stays so", l, list(toBoundary(5, 0, 10, out)), list(toNet(ten, 8, 1, 1, zero, virtual)), toNet(twenty, 8, 3, 4, zero, virtual))
	wantRoutes(t, "hops out of order, of one way alone", l, list(toBoundary(5, 0, 10, out)), list(toNet(ten, 8, 1, 1, out, zero, out)), toNet(twenty, 8, 3, 4, out, zero, out))
}

// wantCounts holds Routes to whether one of these states counts.
func wantCounts(t *testing.T, what string, nssa, counts bool, l ...api.State) {
	t.Helper()
	routers, nets := list(toBoundary(5, 0, 10, hop(1, 5)), toBoundary(1, 0, 10, hop(1, 5))), list(toNet(ten, 8, 1, 4, hop(2, 6)))
	for _, s := range l {
		if got := outer.Routes(list(s), 1, nssa, routers, nets); len(got) == 1 != counts {
			t.Errorf("P20.1: %s: nssa %t: %+v: %+v", what, nssa, s, got)
		}
	}
}

// some: routes of one Type of the router adv, with that metric.
func some(t *testing.T, kind, opts uint8, adv, metric uint32) []api.State {
	t.Helper()
	b := api.Body{Mask: mask8, Metric: metric}
	b2, b3 := b, b
	b2.Type2, b3.Forward = true, ten+1
	return list(of(t, kind, opts, twenty, adv, b), of(t, kind, opts, twenty, adv, b2), of(t, kind, opts, twenty+3, adv, b3))
}

// TestCounts: each rule of what counts, alone, of both Types.
func TestCounts(t *testing.T) {
	for _, nssa := range list(false, true) {
		kind, other := api.OuterState, api.NSSAState
		if nssa {
			kind, other = other, kind
		}
		wantCounts(t, "as it may be", nssa, true, some(t, kind, 0, 5, 4)...)
		wantCounts(t, "with all options", nssa, true, some(t, kind, 255, 5, 4)...)
		wantCounts(t, "of the other Type", nssa, false, some(t, other, 255, 5, 4)...)
		wantCounts(t, "of the router itself", nssa, false, some(t, kind, 255, 1, 4)...)
		wantCounts(t, "of one to which no way leads", nssa, false, some(t, kind, 255, 4, 4)...)
		for _, s := range some(t, kind, 0, 5, 4) {
			for _, age := range list[uint16](0, 1, 3599, api.NoAge, api.NoAge|3599) {
				wantCounts(t, "young enough", nssa, true, aged(s, age))
			}
			for _, age := range list[uint16](3600, 3601, 0x7FFF, api.NoAge|3600, api.NoAge|3601, 0xFFFF) {
				wantCounts(t, "too old", nssa, false, aged(s, age))
			}
		}
		for _, n := range list[uint32](0, 1, api.MaxMetric, api.MaxMetric+1, api.Infinity-1) {
			wantCounts(t, "below Infinity", nssa, true, some(t, kind, 0, 5, n)...)
		}
		wantCounts(t, "Infinity", nssa, false, some(t, kind, 0, 5, api.Infinity)...)
		b := api.Body{Mask: mask8, Metric: 4}
		wantCounts(t, "of another Type", nssa, false, of(t, api.SummaryState, 255, twenty, 5, b),
			of(t, api.BorderState, 255, twenty, 5, metric(4)),
			of(t, api.NetworkState, 255, twenty, 5, api.Body{Mask: mask8, Routers: list[uint32](5)}),
			of(t, api.RouterState, 255, twenty, 5, api.Body{Flags: api.FlagE}),
			of(t, api.OpaqueAll, 255, twenty, 5, api.Body{Data: some(t, kind, 0, 5, 4)[0].Body}))
	}
}

// TestDefault: a NSSAState of 0.0.0.0/0 counts only with OptNP, whatever its ID; all others do without.
func TestDefault(t *testing.T) {
	for _, id := range list[uint32](0, 1, twenty, widest) {
		for _, opts := range list[uint8](0, api.OptE, ^api.OptNP) {
			wantCounts(t, "the default, without OptNP", true, false, of(t, api.NSSAState, opts, id, 5, metric(4)), of(t, api.NSSAState, opts, id, 5, by(metric2(4), ten)))
			wantCounts(t, "the default of an OuterState", false, true, of(t, api.OuterState, opts, id, 5, metric(4)))
			for _, mask := range list[uint32](1<<31, mask8, mask24, widest) {
				wantCounts(t, "another prefix, without OptNP", true, true, of(t, api.NSSAState, opts, id, 5, api.Body{Mask: mask, Metric: 4}))
			}
		}
		for _, opts := range list[uint8](api.OptNP, api.OptNP|api.OptE, 255) {
			wantCounts(t, "the default, with OptNP", true, true, of(t, api.NSSAState, opts, id, 5, metric(4)), of(t, api.NSSAState, opts, id, 5, by(metric2(4), ten)))
			wantCounts(t, "the default of an OuterState", false, true, of(t, api.OuterState, opts, id, 5, metric(4)))
		}
	}
}

// TestBroken: what may not be does not count.
func TestBroken(t *testing.T) {
	for _, kind := range list(api.OuterState, api.NSSAState) {
		s := some(t, kind, 0, 5, 4)[2]
		change := func(what string, do func(s *api.State)) {
			t.Helper()
			x := s
			x.Body = bytes.Clone(s.Body)
			do(&x)
			wantCounts(t, what, kind == api.NSSAState, false, x)
		}
		sealed := func(what string, do func(s *api.State)) {
			t.Helper()
			change(what, func(s *api.State) {
				do(s)
				*s, _ = state.Seal(*s)
			})
		}
		change("another sum", func(s *api.State) { s.Head.Sum++ })
		change("the sum 0", func(s *api.State) { s.Head.Sum = 0 })
		change("another metric", func(s *api.State) { s.Body[7]++ })
		change("another tag", func(s *api.State) { s.Body[15]++ })
		change("another length", func(s *api.State) { s.Head.Len++ })
		change("a body that is cut", func(s *api.State) { s.Body = s.Body[:15] })
		change("no body", func(s *api.State) { s.Body = nil })
		sealed("the number that none has", func(s *api.State) { s.Head.Seq = math.MinInt32 })
		sealed("a short body", func(s *api.State) { s.Body = s.Body[:15] })
		sealed("a long body", func(s *api.State) { s.Body = append(s.Body, 0) })
		sealed("no mask", func(s *api.State) { s.Body[2] = 1 })
		sealed("a byte that is 0 or 128 else", func(s *api.State) { s.Body[4] = 1 })
		sealed("a Type that is none", func(s *api.State) { s.Head.Type = 6 })
		for _, seq := range list[int32](api.FirstSeq, -1, 0, api.LastSeq) {
			x := s
			x.Head.Seq = seq
			x, _ = state.Seal(x)
			wantCounts(t, "a number that may be", kind == api.NSSAState, true, x)
		}
	}
}

// TestSelf: what self says does not count, whoever it is, and what all others say does.
func TestSelf(t *testing.T) {
	routers := list(toBoundary(1, 0, 1, hop(1, 1)), toBoundary(5, 0, 2, hop(1, 5)), toBoundary(widest, 0, 3, hop(1, 9)))
	l := list(told(t, 1, metric(7)), told(t, 5, metric(7)), told(t, widest, metric(7)))
	for _, c := range []struct{ self, cost, via uint32 }{{0, 8, 1}, {1, 9, 5}, {5, 8, 1}, {widest, 8, 1}, {6, 8, 1}} {
		if got := outer.Routes(l, c.self, false, routers, nil); !sameWays(got, list(toNet(twenty, 8, 3, c.cost, hop(1, c.via)))) {
			t.Errorf("P20.1: self %d: %+v", c.self, got)
		}
	}
	if got := outer.Routes(l[2:], widest, false, routers, nil); len(got) != 0 {
		t.Errorf("P20.1: of self alone: %+v", got)
	}
}

// TestSums: at 2^32 a route of Type 1 leads nowhere; one of Type 2 has no sum.
func TestSums(t *testing.T) {
	h := hop(1, 5)
	for _, c := range []struct {
		cost, metric uint32
		leads        bool
	}{
		{widest, 0, true}, {widest, 1, false}, {widest - 1, 1, true}, {widest - 1, 2, false}, {0, api.Infinity - 1, true},
		{widest - api.Infinity + 1, api.Infinity - 1, true}, {widest - api.Infinity + 2, api.Infinity - 1, false}, {widest, api.Infinity - 1, false}, {0, 0, true},
	} {
		routers, nets := list(toBoundary(5, 0, c.cost, h)), list(toNet(ten, 8, 1, c.cost, h))
		forwarded := list(told(t, 5, by(metric(c.metric), ten+1)))
		if c.leads {
			wantRoutes(t, "a sum below 2^32", list(told(t, 5, metric(c.metric))), routers, nil, toNet(twenty, 8, 3, c.cost+c.metric, h))
			wantRoutes(t, "a sum below 2^32", forwarded, routers, nets, toNet(twenty, 8, 3, c.cost+c.metric, h))
		} else {
			wantRoutes(t, "a sum of 2^32 or more", list(told(t, 5, metric(c.metric))), routers, nil)
			wantRoutes(t, "a sum of 2^32 or more", forwarded, routers, nets)
		}
		wantRoutes(t, "no sum", list(told(t, 5, metric2(c.metric))), routers, nil, farNet(twenty, 8, c.cost, c.metric, h))
		wantRoutes(t, "no sum", list(told(t, 5, by(metric2(c.metric), ten+1))), routers, nets, farNet(twenty, 8, c.cost, c.metric, h))
	}
	both := list(toBoundary(5, 0, widest, h), toBoundary(6, 0, widest-1, hop(2, 6)))
	wantRoutes(t, "the other one leads there", list(told(t, 5, metric(1)), told(t, 6, metric(1))), both, nil, toNet(twenty, 8, 3, widest, hop(2, 6)))
	wantRoutes(t, "no sum, and the other one", list(told(t, 5, metric(1)), told(t, 6, metric2(1))), both, nil, farNet(twenty, 8, widest-1, 1, hop(2, 6)))
}

// TestPrefixes: where routes lead, and their order, however the list stands.
func TestPrefixes(t *testing.T) {
	h := hop(1, 5)
	routers := list(toBoundary(5, 0, 3, h))
	for _, c := range []struct {
		id, mask, addr uint32
		bits           uint8
	}{
		{0, mask0, 0, 0}, {widest, mask0, 0, 0}, {ten, mask8, ten, 8}, {ten + 77, mask8, ten, 8}, {ten, mask24, ten, 24}, {0, mask8, 0, 8},
		{widest, widest, widest, 32}, {0, widest, 0, 32}, {widest, 1 << 31, 1 << 31, 1}, {ten + 3, widest - 1, ten + 2, 31},
	} {
		s := of(t, api.OuterState, 0, c.id, 5, api.Body{Mask: c.mask, Metric: 4})
		wantRoutes(t, "a prefix", list(s), routers, nil, toNet(c.addr, c.bits, 3, 7, h))
	}
	at := func(id, mask, n uint32) api.State {
		return of(t, api.OuterState, 0, id, 5, api.Body{Mask: mask, Metric: n})
	}
	l := list(at(widest, widest, 1), at(ten, mask8, 2), at(1<<31, 1<<31, 3), at(0, mask0, 4), at(ten, mask24, 5), at(ten+1<<16, mask16, 6), at(ten, mask16, 7), at(0, mask8, 8), at(1<<31-1, widest, 9))
	want := list(toNet(0, 0, 3, 7, h), toNet(0, 8, 3, 11, h), toNet(ten, 8, 3, 5, h), toNet(ten, 16, 3, 10, h), toNet(ten, 24, 3, 8, h), toNet(ten+1<<16, 16, 3, 9, h), toNet(1<<31-1, 32, 3, 12, h), toNet(1<<31, 1, 3, 6, h), toNet(widest, 32, 3, 4, h))
	for range l {
		l = append(l[1:], l[0])
		wantRoutes(t, "rising", l, routers, nil, want...)
	}
}
