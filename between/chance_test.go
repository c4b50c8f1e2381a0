package between_test

import (
	"bytes"
	"math/rand/v2"
	"slices"
	"testing"

	"lodestar/api"
	"lodestar/between"
	"lodestar/inner"
	"lodestar/state"
	"lodestar/tree"
)

// pick: one of them, by chance.
func pick[T any](r *rand.Rand, l ...T) T { return l[r.IntN(len(l))] }

// rounds: how many lists by chance are tried.
func rounds() int {
	if testing.Short() {
		return 5000
	}
	return 50000
}

func someMetric(r *rand.Rand) uint32 {
	if r.IntN(10) == 0 {
		return pick[uint32](r, 1, api.MaxMetric+1, api.Infinity-1, api.Infinity)
	}
	return uint32(r.IntN(4))
}

// someState: mostly a summary, to one of few ends, of one of few routers.
func someState(t *testing.T, r *rand.Rand) api.State {
	id, adv := pick[uint32](r, ten, ten, ten+1, ten+1<<16, 0, 3, widest), uint32(r.IntN(6))
	mask := pick[uint32](r, mask0, mask8, mask8, mask16, widest)
	switch r.IntN(9) {
	case 0:
		return of(t, pick(r, api.OuterState, api.NSSAState), id, adv, api.Body{Mask: mask, Metric: someMetric(r)})
	case 1, 2, 3:
		return border(t, pick[uint32](r, id, uint32(r.IntN(4))), adv, someMetric(r))
	}
	return summary(t, id, mask, adv, someMetric(r))
}

// spoilt: the state, seldom with something wrong.
func spoilt(r *rand.Rand, s api.State) api.State {
	switch r.IntN(40) {
	case 0:
		s.Head.Sum++
	case 1:
		s.Head.Age = api.MaxAge
	case 2:
		s.Head.Age = api.NoAge | 3599
	case 3:
		s.Body = s.Body[:r.IntN(len(s.Body)+1)]
		s, _ = state.Seal(s)
	case 4:
		s.Body = bytes.Clone(s.Body)
		s.Body[r.IntN(len(s.Body))]++
		s, _ = state.Seal(s)
	}
	return s
}

func someStates(t *testing.T, r *rand.Rand) []api.State {
	var l []api.State
	for range r.IntN(20) {
		l = append(l, spoilt(r, someState(t, r)))
	}
	return l
}

func someHops(r *rand.Rand) []tree.Hop {
	var l []tree.Hop
	for range r.IntN(4) {
		l = append(l, tree.Hop{Out: uint32(r.IntN(3)), Via: pick[uint32](r, 0, 1, 2, widest), Virtual: r.IntN(6) == 0})
	}
	return l
}

// someWays: to routers, but for so many of twelve to prefixes, mostly of little cost.
func someWays(r *rand.Rand, prefixes int) []inner.Way {
	var l []inner.Way
	for range r.IntN(12) {
		w := inner.Way{Flags: uint8(r.IntN(256)), Kind: pick[uint8](r, 0, 1, 1, 2, 2, 3), Area: pick[uint32](r, 0, 0, 0, 1), Cost: uint32(r.IntN(6)), Far: r.Uint32(), Tag: r.Uint32(), Hops: someHops(r)}
		if r.IntN(12) == 0 {
			w.Cost = pick[uint32](r, widest, widest-1, 1<<31)
		}
		if r.IntN(3) > 0 {
			w.Flags |= api.FlagB
		}
		if r.IntN(12) >= prefixes {
			w.Router = pick[uint32](r, 0, 1, 2, 3, 4, 5, 3, widest)
		}
		if w.Router == 0 {
			w.Net = pick(r, api.Prefix{}, api.Prefix{Addr: ten, Bits: 8}, api.Prefix{Addr: ten, Bits: 16}, api.Prefix{Addr: ten + 1<<16, Bits: 16}, api.Prefix{Addr: widest, Bits: 32})
		}
		l = append(l, w)
	}
	return l
}

// TestByChance holds Routes against the chapter's words.
func TestByChance(t *testing.T) {
	r := rand.New(rand.NewPCG(19, 1))
	nothing, several, routersToo := 0, 0, 0
	for range rounds() {
		l, routers := someStates(t, r), someWays(r, 1)
		area, self := r.Uint32(), uint32(r.IntN(7))
		nets, borders := between.Routes(l, area, self, routers)
		wantNets, wantBorders := wordsRoutes(l, area, self, routers)
		if !sameWays(nets, wantNets) || !sameWays(borders, wantBorders) {
			t.Fatalf("P19.1: self %d, by %+v, of %+v:\n got %+v, %+v\nwant %+v, %+v", self, routers, l, nets, borders, wantNets, wantBorders)
		}
		if len(nets) == 0 {
			nothing++
		}
		if len(nets) > 1 {
			several++
		}
		routersToo += len(borders)
	}
	if few := rounds() / 10; min(nothing, several, routersToo) < few {
		t.Errorf("too seldom to tell: %d lists have no nets, %d several, and there are %d borders", nothing, several, routersToo)
	}
}

// TestImproveByChance holds Improve against the chapter's words, and to what follows: no way becomes longer; and once is enough.
func TestImproveByChance(t *testing.T) {
	r := rand.New(rand.NewPCG(19, 2))
	shorter, joined := 0, 0
	for range rounds() {
		ways, l, routers, self := someWays(r, 8), someStates(t, r), someWays(r, 1), uint32(r.IntN(7))
		got, want := between.Improve(ways, l, self, routers), wordsImprove(ways, l, self, routers)
		if !sameWays(got, want) {
			t.Fatalf("P19.2: self %d, %+v by %+v, of %+v:\n got %+v\nwant %+v", self, ways, routers, l, got, want)
		}
		for i, w := range got {
			switch {
			case w.Cost > ways[i].Cost:
				t.Fatalf("P19.2: %+v becomes longer: %+v", ways[i], w)
			case w.Cost < ways[i].Cost:
				shorter++
			case len(w.Hops) > len(ways[i].Hops):
				joined++
			}
		}
		if !sameWays(between.Improve(got, l, self, routers), got) {
			t.Fatalf("P19.2: %+v by %+v, of %+v: improved twice", ways, routers, l)
		}
	}
	if few := rounds() / 50; min(shorter, joined) < few {
		t.Errorf("too seldom to tell: %d ways are shorter, %d have more hops", shorter, joined)
	}
}

// roomy: the list in memory of its own, with something in its spare room.
func roomy[T any](l []T, spare ...T) []T { return slices.Concat(l, spare)[:len(l)] }

// roomyWays: ways in memory of their own, each list with something in its spare room.
func roomyWays(l []inner.Way) []inner.Way {
	l = roomy(l, toNet(7, 7, 7, hop(7, 7)))
	for i := range l {
		l[i].Hops = roomy(l[i].Hops, hop(7, 7), virtualHop(8, 8), hop(9, 9))
	}
	return l
}

// allOf: the ways, and their hops, with what is in their spare room.
func allOf(l []inner.Way) []inner.Way {
	l = slices.Clone(l[:cap(l)])
	for i := range l {
		l[i].Hops = slices.Clone(l[i].Hops[:cap(l[i].Hops)])
	}
	return l
}

func roomyStates(t *testing.T, l []api.State) []api.State {
	l = roomy(l, summary(t, ten, mask8, 2, 0))
	for i := range l {
		l[i].Body = roomy(l[i].Body, 7, 8, 9)
	}
	return l
}

// statesOf: the states, and their bodies, with what is in their spare room.
func statesOf(l []api.State) []api.State {
	l = slices.Clone(l[:cap(l)])
	for i := range l {
		l[i].Body = bytes.Clone(l[i].Body[:cap(l[i].Body)])
	}
	return l
}

func sameStates(a, b []api.State) bool {
	return slices.EqualFunc(a, b, func(x, y api.State) bool { return x.Head == y.Head && bytes.Equal(x.Body, y.Body) })
}

// wantApart: R5: the ways are as wanted, and stay so when others are spoilt.
func wantApart(t *testing.T, want []inner.Way, got ...[]inner.Way) {
	t.Helper()
	i := 0
	for _, l := range got {
		for _, w := range l {
			if i >= len(want) || !sameWay(w, want[i]) {
				t.Fatalf("R5: way %d of %+v is %+v", i, want, w)
			}
			for j := range cap(w.Hops) {
				w.Hops[:cap(w.Hops)][j] = hop(99, 99)
			}
			i++
		}
		clear(l[:cap(l)])
	}
	if i != len(want) {
		t.Fatalf("R5: %d ways of %+v", i, want)
	}
}

// TestMemory: R5: what is handed in stays as it is, its spare room too, and the lists of an answer share nothing, with each other or with what is handed in.
func TestMemory(t *testing.T) {
	r := rand.New(rand.NewPCG(19, 3))
	for range rounds() / 2 {
		ways, l, routers := roomyWays(someWays(r, 8)), roomyStates(t, someStates(t, r)), roomyWays(someWays(r, 1))
		wasWays, wasStates, wasRouters := allOf(ways), statesOf(l), allOf(routers)
		wantNets, wantBorders := wordsRoutes(l, 3, 1, routers)
		wantWays := wordsImprove(ways, l, 1, routers)
		unchanged := func(what string) {
			if !sameWays(allOf(ways), wasWays) || !sameStates(statesOf(l), wasStates) || !sameWays(allOf(routers), wasRouters) {
				t.Fatalf("R5: %s", what)
			}
		}
		nets, borders := between.Routes(l, 3, 1, routers)
		improved, again := between.Improve(ways, l, 1, routers), between.Improve(ways, l, 1, routers)
		unchanged("an argument is changed")
		wantApart(t, slices.Concat(wantNets, wantBorders), nets, borders)
		wantApart(t, wantWays, improved)
		unchanged("an answer shares memory with an argument")
		for i := range ways {
			clear(ways[i].Hops[:cap(ways[i].Hops)])
		}
		for i := range routers {
			clear(routers[i].Hops[:cap(routers[i].Hops)])
		}
		wantApart(t, wantWays, again)
	}
}

// TestLargest: R1: more states and routers than a router has, to one end and to many.
func TestLargest(t *testing.T) {
	const many = 8 * api.MaxStates
	var l []api.State
	var routers, ways []inner.Way
	var hops []tree.Hop
	for i := range uint32(many) {
		id := i + 2
		h := hop(many-i, id)
		hops = append(hops, h)
		routers = append(routers, toBorder(id, 3, h))
		l = append(l, summary(t, ten, mask8, id, 4), summary(t, id<<8, mask24, id, 5), border(t, 1<<31, id, 6))
		ways = append(ways, toNet(id<<8, 24, 9, h), toNet(id<<8, 24, 8, hop(0, 9)))
	}
	slices.Reverse(hops)
	nets, borders := between.Routes(l, 0, 1, routers)
	if len(nets) != many+1 || len(borders) != 1 || !sameWay(borders[0], toBoundary(1<<31, 9, hops...)) {
		t.Fatalf("P19.1: %d prefixes and %d routers", len(nets), len(borders))
	}
	if at := slices.IndexFunc(nets, func(w inner.Way) bool { return w.Net.Bits == 8 }); !sameWay(nets[at], toNet(ten, 8, 7, hops...)) {
		t.Errorf("P19.1: way %d of many hops", at)
	}
	for i, w := range between.Improve(ways, l, 1, routers) {
		id := uint32(i/2 + 2)
		want := toNet(id<<8, 24, 8, hop(many-id+2, id))
		if i%2 == 1 {
			want.Hops = slices.Insert(want.Hops, 0, hop(0, 9))
		}
		if !sameWay(w, want) {
			t.Fatalf("P19.2: way %d of many: got %+v, want %+v", i, w, want)
		}
	}
}
