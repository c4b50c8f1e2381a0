package outer_test

import (
	"bytes"
	"math/rand/v2"
	"slices"
	"testing"

	"lodestar/api"
	"lodestar/inner"
	"lodestar/outer"
	"lodestar/state"
	"lodestar/tree"
)

// pick: one of them, by chance.
func pick[T any](r *rand.Rand, l ...T) T { return l[r.IntN(len(l))] }

// rounds: how many lists by chance are tried.
func rounds() int {
	if testing.Short() {
		return 5000
	}
	return 50000
}

func someMetric(r *rand.Rand) uint32 {
	if r.IntN(10) == 0 {
		return pick[uint32](r, 1, api.MaxMetric+1, api.Infinity-1, api.Infinity)
	}
	return uint32(r.IntN(4))
}

// someState: mostly a route of one of few routers to one of few prefixes, of Type kind.
func someState(t *testing.T, r *rand.Rand, kind uint8) api.State {
	id, adv := pick[uint32](r, twenty, twenty, twenty+1, twenty+1<<16, 0, widest), uint32(r.IntN(6))
	b := api.Body{Mask: pick[uint32](r, mask0, mask8, mask8, mask16, widest), Metric: someMetric(r)}
	if r.IntN(20) == 0 {
		return of(t, api.SummaryState, api.OptNP, id, adv, b)
	}
	if r.IntN(20) == 0 {
		kind = pick(r, api.OuterState, api.NSSAState)
	}
	b.Type2, b.Tag = r.IntN(2) == 0, r.Uint32()
	if r.IntN(3) == 0 {
		b.Forward = pick[uint32](r, ten, ten+1, ten+1<<16, ten+2<<16, widest, 1, 11<<24)
	}
	return of(t, kind, uint8(r.IntN(256)), id, adv, b)
}

// spoilt: the state, seldom with something wrong.
func spoilt(r *rand.Rand, s api.State) api.State {
	switch r.IntN(40) {
	case 0:
		s.Head.Sum++
	case 1:
		s.Head.Age = api.MaxAge
	case 2:
		s.Head.Age = api.NoAge | 3599
	case 3:
		s.Body = s.Body[:r.IntN(len(s.Body)+1)]
		s, _ = state.Seal(s)
	case 4:
		s.Body = bytes.Clone(s.Body)
		s.Body[r.IntN(len(s.Body))]++
		s, _ = state.Seal(s)
	}
	return s
}

func someStates(t *testing.T, r *rand.Rand, nssa bool) []api.State {
	kind := api.OuterState
	if nssa {
		kind = api.NSSAState
	}
	var l []api.State
	for range r.IntN(20) {
		l = append(l, spoilt(r, someState(t, r, kind)))
	}
	return l
}

func someHops(r *rand.Rand) []tree.Hop {
	var l []tree.Hop
	for range r.IntN(4) {
		l = append(l, tree.Hop{Out: uint32(r.IntN(3)), Via: pick[uint32](r, 0, 1, 2, widest), Virtual: r.IntN(6) == 0})
	}
	return l
}

// someWay: mostly of little cost, it leads nowhere yet.
func someWay(r *rand.Rand, kinds ...uint8) inner.Way {
	w := inner.Way{Flags: uint8(r.IntN(256)), Kind: pick(r, kinds...), Area: pick[uint32](r, 0, 0, 0, 1, 2), Cost: uint32(r.IntN(4)), Far: uint32(r.IntN(3)), Tag: r.Uint32(), Hops: someHops(r)}
	if r.IntN(12) == 0 {
		w.Cost = pick[uint32](r, widest, widest-1, 1<<31)
	}
	return w
}

// someRouters: ways to few routers, but a few to prefixes, or to both.
func someRouters(r *rand.Rand) []inner.Way {
	var l []inner.Way
	for range r.IntN(12) {
		w := someWay(r, 1, 1, 1, 2, 2, 0, 3)
		w.Router = pick[uint32](r, 0, 1, 2, 3, 4, 5, 2, 3, 4, widest)
		if r.IntN(3) > 0 {
			w.Flags |= api.FlagE
		}
		if r.IntN(30) == 0 {
			w.Net = prefixOf(ten, 8)
		}
		l = append(l, w)
	}
	return l
}

// someNets: ways to few prefixes, but a few to what is no prefix, or to routers.
func someNets(r *rand.Rand) []inner.Way {
	var l []inner.Way
	for range r.IntN(12) {
		w := someWay(r, 1, 1, 2, 2, 3, 4, 4, 0)
		w.Net = pick(r, prefixOf(0, 0), prefixOf(ten, 8), prefixOf(ten, 8), prefixOf(ten, 16), prefixOf(ten, 31), prefixOf(ten+1<<16, 16), prefixOf(widest, 32), prefixOf(ten+1, 8), prefixOf(ten, 33))
		if r.IntN(6) == 0 {
			w.Router = uint32(r.IntN(3))
		}
		l = append(l, w)
	}
	return l
}

// TestByChance holds Routes against the chapter's words.
func TestByChance(t *testing.T) {
	r := rand.New(rand.NewPCG(20, 1))
	nothing, several, forwarded := 0, 0, 0
	for range rounds() {
		nssa := r.IntN(2) == 0
		l, routers, nets, self := someStates(t, r, nssa), someRouters(r), someNets(r), uint32(r.IntN(7))
		got, want := outer.Routes(l, self, nssa, routers, nets), wordsRoutes(l, self, nssa, routers, nets)
		if !sameWays(got, want) {
			t.Fatalf("P20.1: self %d, nssa %t, by %+v and %+v, of %+v:\n got %+v\nwant %+v", self, nssa, routers, nets, l, got, want)
		}
		if len(got) == 0 {
			nothing++
		}
		if len(got) > 1 {
			several++
		}
		if !sameWays(got, outer.Routes(l, self, nssa, routers, nil)) {
			forwarded++
		}
	}
	if few := rounds() / 10; min(nothing, several, forwarded) < few {
		t.Errorf("too seldom to tell: %d lists have no ways, %d several, and %d hang on a Forward", nothing, several, forwarded)
	}
}

// TestMergeByChance holds Merge against the chapter's words, and to what follows; and once is enough.
func TestMergeByChance(t *testing.T) {
	r := rand.New(rand.NewPCG(20, 2))
	several, joined := 0, 0
	for range rounds() {
		a, b := slices.Concat(someNets(r), someNets(r)), someNets(r)
		got, want := outer.Merge(a, b), wordsMerge(a, b)
		if !sameWays(got, want) {
			t.Fatalf("P20.3: %+v, %+v:\n got %+v\nwant %+v", a, b, got, want)
		}
		if !sameWays(outer.Merge(got, nil), got) || !sameWays(outer.Merge(nil, got), got) {
			t.Fatalf("P20.3: %+v and none: not that list", got)
		}
		if len(got) > 1 {
			several++
		}
		if slices.ContainsFunc(got, func(w inner.Way) bool { return len(w.Hops) > 3 }) {
			joined++
		}
	}
	if few := rounds() / 50; min(several, joined) < few {
		t.Errorf("too seldom to tell: %d lists are of several ways, %d have a way with the hops of several", several, joined)
	}
}

// roomy: the list in memory of its own, with something in its spare room.
func roomy[T any](l []T, spare ...T) []T { return slices.Concat(l, spare)[:len(l)] }

// roomyWays: ways in memory of their own, each list with something in its spare room.
func roomyWays(l []inner.Way) []inner.Way {
	l = roomy(l, toNet(7, 7, 1, 7, hop(7, 7)))
	for i := range l {
		l[i].Hops = roomy(l[i].Hops, hop(7, 7), virtualHop(8, 8), hop(9, 9))
	}
	return l
}

// allOf: the ways, and their hops, with what is in their spare room.
func allOf(l []inner.Way) []inner.Way {
	l = slices.Clone(l[:cap(l)])
	for i := range l {
		l[i].Hops = slices.Clone(l[i].Hops[:cap(l[i].Hops)])
	}
	return l
}

func roomyStates(t *testing.T, l []api.State) []api.State {
	l = roomy(l, told(t, 5, metric(0)))
	for i := range l {
		l[i].Body = roomy(l[i].Body, 7, 8, 9)
	}
	return l
}

// statesOf: the states, and their bodies, with what is in their spare room.
func statesOf(l []api.State) []api.State {
	l = slices.Clone(l[:cap(l)])
	for i := range l {
		l[i].Body = bytes.Clone(l[i].Body[:cap(l[i].Body)])
	}
	return l
}

func sameStates(a, b []api.State) bool {
	return slices.EqualFunc(a, b, func(x, y api.State) bool { return x.Head == y.Head && bytes.Equal(x.Body, y.Body) })
}

// wantApart: R5: the ways are as wanted, and stay so when others are spoilt.
func wantApart(t *testing.T, want, got []inner.Way) {
	t.Helper()
	if len(got) != len(want) {
		t.Fatalf("R5: %d ways of %+v", len(got), want)
	}
	for i, w := range got {
		if !sameWay(w, want[i]) {
			t.Fatalf("R5: way %d of %+v is %+v", i, want, w)
		}
		for j := range cap(w.Hops) {
			w.Hops[:cap(w.Hops)][j] = hop(99, 99)
		}
	}
	clear(got[:cap(got)])
}

// TestMemory: R5: what is handed in stays as it is, its spare room too, and the lists of an answer share nothing, with each other or with what is handed in.
func TestMemory(t *testing.T) {
	r := rand.New(rand.NewPCG(20, 3))
	for range rounds() / 2 {
		l, routers, nets := roomyStates(t, someStates(t, r, false)), roomyWays(someRouters(r)), roomyWays(someNets(r))
		wasStates, wasRouters, wasNets := statesOf(l), allOf(routers), allOf(nets)
		wantRoutes, wantMerged := wordsRoutes(l, 1, false, routers, nets), wordsMerge(nets, routers)
		unchanged := func(what string) {
			t.Helper()
			if !sameStates(statesOf(l), wasStates) || !sameWays(allOf(routers), wasRouters) || !sameWays(allOf(nets), wasNets) {
				t.Fatalf("R5: %s", what)
			}
		}
		routes, merged := outer.Routes(l, 1, false, routers, nets), outer.Merge(nets, routers)
		laterRoutes, laterMerged := outer.Routes(l, 1, false, routers, nets), outer.Merge(nets, routers)
		unchanged("an argument is changed")
		wantApart(t, wantRoutes, routes)
		wantApart(t, wantMerged, merged)
		unchanged("an answer shares memory with an argument")
		for _, w := range slices.Concat(routers, nets) {
			clear(w.Hops[:cap(w.Hops)])
		}
		wantApart(t, wantRoutes, laterRoutes)
		wantApart(t, wantMerged, laterMerged)
	}
}

// TestLargest: R1: more routes, routers and prefixes than a router has, to one prefix and to many.
func TestLargest(t *testing.T) {
	const many = 8 * api.MaxStates
	var l []api.State
	var routers, nets, want []inner.Way
	var hops []tree.Hop
	for i := range uint32(many) {
		id := i + 2
		h := hop(many-i, id)
		hops = append(hops, h)
		routers = append(routers, toBoundary(id, 0, 3, h))
		nets = append(nets, toNet(id<<8, 24, 1, 9, h))
		l = append(l, told(t, id, metric(4)), of(t, api.OuterState, 0, id<<8, id, by(api.Body{Mask: mask24, Metric: 5}, id<<8+1)))
		want = append(want, toNet(id<<8, 24, 3, 14, h))
	}
	slices.Reverse(hops)
	isTwenty := func(w inner.Way) bool { return w.Net.Bits == 8 }
	got := outer.Routes(l, 1, false, routers, nets)
	if at := slices.IndexFunc(got, isTwenty); at < 0 || !sameWay(got[at], toNet(twenty, 8, 3, 7, hops...)) {
		t.Errorf("P20.1: way %d of many hops", at)
	}
	if !sameWays(slices.DeleteFunc(got, isTwenty), want) {
		t.Errorf("P20.1: many ways: %d", len(got))
	}
	if got = outer.Merge(want, nets); !sameWays(got, nets) {
		t.Errorf("P20.3: many ways: %d", len(got))
	}
	var same []inner.Way
	for _, h := range hops {
		same = append(same, toNet(ten, 8, 3, 7, h))
	}
	if got = outer.Merge(same, same); !sameWays(got, list(toNet(ten, 8, 3, 7, hops...))) {
		t.Errorf("P20.3: many ways to one prefix: %d", len(got))
	}
}
