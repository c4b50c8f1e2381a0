package inner_test

import (
	"math"
	"slices"
	"testing"

	"lodestar/api"
	"lodestar/inner"
	"lodestar/tree"
)

const (
	ten     = 0x0A000000
	widest  = math.MaxUint32
	mask0   = 0
	mask8   = 0xFF000000
	mask16  = 0xFFFF0000
	mask24  = 0xFFFFFF00
	noMask  = 0xFF00FF00
	dearest = math.MaxUint16
)

// example: the link states of chapter 16.
func example(t testing.TB) []api.State {
	t.Helper()
	return list(
		network(t, ten+2, 2, 1),
		router(t, 2, transit(ten+2, ten+2, 5)),
		router(t, 1, transit(ten+2, ten+1, 3), stub(ten+1<<16, mask16, 7)),
	)
}

func TestExamples(t *testing.T) {
	l := example(t)
	wantRoutes(t, "the example", l, 1,
		list(toNet(ten, 24, 3, hop(ten+1, 0)), toNet(ten+1<<16, 16, 7)), list(toRouter(2, 3, hop(ten+1, 2))))
	wantRoutes(t, "the example", l, 2,
		list(toNet(ten, 24, 5, hop(ten+2, 0)), toNet(ten+1<<16, 16, 12, hop(ten+2, 1))), list(toRouter(1, 5, hop(ten+2, 1))))
	wantRoutes(t, "the example", l, 9, nil, nil)
}

// TestArea: each way has it, as it is handed in.
func TestArea(t *testing.T) {
	for _, area := range list[uint32](0, 1, 1<<31, widest) {
		nets, routers := inner.Routes(example(t), area, 1)
		if len(nets) != 2 || len(routers) != 1 {
			t.Fatalf("P18.1: area %d: %+v, %+v", area, nets, routers)
		}
		for _, w := range slices.Concat(nets, routers) {
			if w.Area != area {
				t.Errorf("P18.1: area %d: %+v", area, w)
			}
		}
	}
}

// TestNoRoot: nothing, if the root is no router of the graph.
func TestNoRoot(t *testing.T) {
	l := example(t)
	broken := router(t, 5, stub(ten, mask8, 1))
	broken.Head.Sum++
	other := of(t, api.RouterState, 6, 7, api.Body{Links: list(stub(ten, mask8, 1))})
	nobody := of(t, api.RouterState, 0, 0, api.Body{Links: list(stub(ten, mask8, 1))})
	l = append(l, aged(router(t, 4, stub(ten, mask8, 1)), api.MaxAge), broken, other, nobody)
	for _, c := range []struct {
		what string
		root uint32
	}{
		{"one that says nothing", 3}, {"one that is too old", 4}, {"one that is broken", 5}, {"one of which another one speaks", 6},
		{"one that speaks of another", 7}, {"0", 0}, {"a network", ten + 2}, {"the widest", widest},
	} {
		wantRoutes(t, c.what, l, c.root, nil, nil)
	}
	wantRoutes(t, "no link states", nil, 1, nil, nil)
	wantRoutes(t, "no link states", []api.State{}, 0, nil, nil)
	wantRoutes(t, "a zero link state", list(api.State{}), 0, nil, nil)
	wantRoutes(t, "one that has nothing", list(router(t, 1)), 1, nil, nil)
	wantRoutes(t, "the widest that is one", list(router(t, widest, stub(ten, mask8, 1))), widest, list(toNet(ten, 8, 1)), nil)
}

// TestStubs: those of the root, and of the others that are reached.
func TestStubs(t *testing.T) {
	one := func(links ...api.Link) []api.State { return list(router(t, 1, links...)) }
	wantRoutes(t, "of the root", one(stub(ten+77, mask8, 4)), 1, list(toNet(ten, 8, 4)), nil)
	wantRoutes(t, "of no cost", one(stub(ten, mask8, 0)), 1, list(toNet(ten, 8, 0)), nil)
	wantRoutes(t, "without a mask", one(stub(ten, noMask, 4)), 1, nil, nil)
	wantRoutes(t, "the cheapest is the first", one(stub(ten, mask8, 4), stub(ten+1, mask8, 5)), 1, list(toNet(ten, 8, 4)), nil)
	wantRoutes(t, "the cheapest is the last", one(stub(ten, mask8, 5), stub(ten+1, mask8, 4)), 1, list(toNet(ten, 8, 4)), nil)
	wantRoutes(t, "the cheapest is between", one(stub(ten, mask8, 5), stub(ten, mask8, 0), stub(ten, mask8, 4)), 1, list(toNet(ten, 8, 0)), nil)
	wantRoutes(t, "everything and one address", one(stub(5, mask0, 4), stub(widest, widest, 5)), 1, list(toNet(0, 0, 4), toNet(widest, 32, 5)), nil)
	far := list(router(t, 1, line(2, 11, 3)), router(t, 2, line(1, 22, 1), stub(ten, mask8, 4)), router(t, 3, line(2, 33, 1), stub(ten, mask16, 4)))
	wantRoutes(t, "of another router", far, 1, list(toNet(ten, 8, 7, hop(11, 2))), list(toRouter(2, 3, hop(11, 2))))
	wantRoutes(t, "of the root alone", far, 3, list(toNet(ten, 16, 4)), nil)
	own := list(router(t, 1, line(2, 11, 3), stub(ten, mask8, 9)), router(t, 2, line(1, 22, 1), stub(ten, mask8, 4)))
	wantRoutes(t, "of the root, and cheaper of another", own, 1, list(toNet(ten, 8, 7, hop(11, 2))), list(toRouter(2, 3, hop(11, 2))))
	wantRoutes(t, "of the root, and dearer of another", own, 2, list(toNet(ten, 8, 4)), list(toRouter(1, 1, hop(22, 1))))
}

// TestOrder: prefixes by Addr, then Bits; all of an address stand beside each other.
func TestOrder(t *testing.T) {
	links := list(stub(widest, widest, 1), stub(ten, mask8, 2), stub(1<<31, 1<<31, 3), stub(0, mask0, 4), stub(ten, mask24, 5), stub(ten+1<<16, mask16, 6), stub(ten, mask16, 7), stub(0, mask8, 8), stub(1<<31-1, widest, 9))
	want := list(toNet(0, 0, 4), toNet(0, 8, 8), toNet(ten, 8, 2), toNet(ten, 16, 7), toNet(ten, 24, 5), toNet(ten+1<<16, 16, 6), toNet(1<<31-1, 32, 9), toNet(1<<31, 1, 3), toNet(widest, 32, 1))
	for range links {
		links = append(links[1:], links[0])
		wantRoutes(t, "prefixes", list(router(t, 1, links...)), 1, want, nil)
	}
	ids := list[uint32](1<<31, 2, widest, 1<<31-1, 3)
	l := list(router(t, 7))
	for i, id := range ids {
		l[0] = router(t, 7, line(ids[0], 1, 1), line(ids[1], 1, 2), line(ids[2], 1, 3), line(ids[3], 1, 4), line(ids[4], 1, 5))
		l = append(l, router(t, id, line(7, uint32(i), 1)))
	}
	wantRoutes(t, "routers", l, 7, nil, list(toRouter(2, 2, hop(1, 2)), toRouter(3, 5, hop(1, 3)), toRouter(1<<31-1, 4, hop(1, 1<<31-1)), toRouter(1<<31, 1, hop(1, 1<<31)), toRouter(widest, 3, hop(1, widest))))
}

// TestNetworks: a network's Net costs what the network does.
func TestNetworks(t *testing.T) {
	const a, b, c = ten + 1, ten + 2, ten + 1<<8 // a and b have one Net
	l := list(network(t, a, 2, 1), network(t, b, 3, 1), network(t, c, 9, 4),
		router(t, 1, transit(a, 11, 4), transit(b, 12, 6)), router(t, 2, transit(a, 21, 1)), router(t, 3, transit(b, 31, 1)),
		router(t, 4, transit(c, 41, 1)), router(t, 9, transit(c, 91, 1)))
	others := list(toRouter(2, 4, hop(11, 2)), toRouter(3, 6, hop(12, 3)))
	wantRoutes(t, "of two with one Net the cheaper", l, 1, list(toNet(ten, 24, 4, hop(11, 0))), others)
	wantRoutes(t, "others are not reached", l, 4, list(toNet(c, 24, 1, hop(41, 0))), list(toRouter(9, 1, hop(41, 9))))
	l[3] = router(t, 1, transit(a, 11, 4), transit(b, 12, 4))
	others[1].Cost = 4
	wantRoutes(t, "of two with one Net both", l, 1, list(toNet(ten, 24, 4, hop(11, 0), hop(12, 0))), others)
	l[3] = router(t, 1, transit(a, 12, 4), transit(b, 12, 4))
	wantRoutes(t, "each hop once", l, 1, list(toNet(ten, 24, 4, hop(12, 0))), list(toRouter(2, 4, hop(12, 2)), toRouter(3, 4, hop(12, 3))))
	l[3] = router(t, 1, transit(a, 11, 4), stub(ten+5, mask24, 3))
	others = others[:1]
	wantRoutes(t, "a cheaper stub", l, 1, list(toNet(ten, 24, 3)), others)
	l[3] = router(t, 1, transit(a, 11, 4), stub(ten+5, mask24, 5))
	wantRoutes(t, "a dearer stub", l, 1, list(toNet(ten, 24, 4, hop(11, 0))), others)
	l[3] = router(t, 1, transit(a, 11, 4), stub(ten+5, mask16, 1))
	wantRoutes(t, "a stub of fewer bits", l, 1, list(toNet(ten, 16, 1), toNet(ten, 24, 4, hop(11, 0))), others)
	l[0] = aged(l[0], api.MaxAge)
	wantRoutes(t, "one that is too old", l, 1, list(toNet(ten, 16, 1)), nil)
}

// TestEqualCosts: the hops of all ways to a prefix that have the least cost, joined.
func TestEqualCosts(t *testing.T) {
	two := func(first, second uint16) []api.State {
		return list(router(t, 1, line(2, 12, 3), line(3, 11, 3)), router(t, 2, line(1, 21, 1), stub(ten, mask8, first)), router(t, 3, line(1, 31, 1), stub(ten, mask8, second)))
	}
	others := list(toRouter(2, 3, hop(12, 2)), toRouter(3, 3, hop(11, 3)))
	wantRoutes(t, "two routers", two(4, 4), 1, list(toNet(ten, 8, 7, hop(11, 3), hop(12, 2))), others)
	wantRoutes(t, "the first is cheaper", two(4, 5), 1, list(toNet(ten, 8, 7, hop(12, 2))), others)
	wantRoutes(t, "the second is cheaper", two(5, 4), 1, list(toNet(ten, 8, 7, hop(11, 3))), others)
	l := two(5, 4)
	l[0] = router(t, 1, line(2, 12, 3), line(3, 11, 3), stub(ten, mask8, 8), stub(ten, mask8, 9))
	wantRoutes(t, "cheaper ones one after the other", l, 1, list(toNet(ten, 8, 7, hop(11, 3))), others)
	l = append(two(5, 5), router(t, 4, line(1, 41, 1), stub(ten, mask8, 2)), router(t, 5, line(1, 51, 1), stub(ten, mask8, 1)))
	l[0] = router(t, 1, line(2, 12, 3), line(3, 11, 3), line(4, 10, 3), line(5, 9, 4))
	wantRoutes(t, "two, then two that are cheaper", l, 1, list(toNet(ten, 8, 5, hop(9, 5), hop(10, 4))),
		append(others, toRouter(4, 3, hop(10, 4)), toRouter(5, 4, hop(9, 5))))
	l = two(4, 4)
	l[0] = router(t, 1, line(2, 12, 3), line(3, 11, 3), stub(ten, mask8, 7))
	wantRoutes(t, "one of them at hand", l, 1, list(toNet(ten, 8, 7, hop(11, 3), hop(12, 2))), others)
	l = two(4, 4)
	l[1] = router(t, 2, line(1, 21, 1), stub(ten, mask8, 4), stub(ten, mask8, 4))
	wantRoutes(t, "one of them twice", l, 1, list(toNet(ten, 8, 7, hop(11, 3), hop(12, 2))), others)
	behind := list(router(t, 1, line(2, 12, 3)), router(t, 2, line(1, 21, 1), line(3, 23, 1), stub(ten, mask8, 4)), router(t, 3, line(2, 32, 1), stub(ten, mask8, 3)))
	wantRoutes(t, "by one hop", behind, 1, list(toNet(ten, 8, 7, hop(12, 2))), list(toRouter(2, 3, hop(12, 2)), toRouter(3, 4, hop(12, 2))))
	mixed := list(network(t, ten+3, 3, 1), router(t, 1, line(2, 12, 3), transit(ten+3, 11, 4)), router(t, 2, line(1, 21, 1), stub(ten, mask24, 1)), router(t, 3, transit(ten+3, 31, 1)))
	wantRoutes(t, "a stub and a network", mixed, 1, list(toNet(ten, 24, 4, hop(11, 0), hop(12, 2))), list(toRouter(2, 3, hop(12, 2)), toRouter(3, 4, hop(11, 3))))
}

// TestRouters: what a way to a router has, virtual ones too; its hops may be several.
func TestRouters(t *testing.T) {
	l := list(flagged(t, 1, 7, line(2, 11, 3), virtual(3, 12, 4), line(2, 10, 3)), flagged(t, 2, api.FlagB|api.FlagNt, line(1, 21, 1)), flagged(t, 3, 255, virtual(1, 31, 1), stub(ten, mask8, 1)), router(t, 4, line(1, 41, 1)))
	two, three := toRouter(2, 3, hop(10, 2), hop(11, 2)), toRouter(3, 4, virtualHop(12, 3))
	two.Flags, three.Flags = 17, 255
	wantRoutes(t, "flags", l, 1, list(toNet(ten, 8, 5, virtualHop(12, 3))), list(two, three))
	wantRoutes(t, "one that nobody tells", l, 4, nil, nil)
}

// TestSums: a way whose sum is 2^32 or more is none. So many edges of the greatest cost are 2^32 - 1.
func TestSums(t *testing.T) {
	const last = 1<<32/dearest + 1
	l := make([]api.State, last)
	for i := range l {
		id := uint32(i + 1)
		l[i] = router(t, id, line(id-1, 0, dearest), line(id+1, 1, dearest))
	}
	end := func(links ...api.Link) []api.State {
		l[last-1] = router(t, last, append(links, line(last-1, 0, dearest))...)
		return l
	}
	wantNets := func(what string, want ...inner.Way) {
		t.Helper()
		nets, routers := inner.Routes(l, 0, 1)
		if len(routers) != last-1 || !sameWay(routers[last-2], toRouter(last, widest, hop(1, 2))) {
			t.Fatalf("P18.1: %s: %d routers", what, len(routers))
		}
		if !sameWays(nets, want) {
			t.Errorf("P18.1: %s: got %+v, want %+v", what, nets, want)
		}
	}
	end(stub(ten, mask8, 0), stub(ten, mask16, 1), stub(ten, mask24, dearest))
	wantNets("the largest sum alone", toNet(ten, 8, widest, hop(1, 2)))
	end(stub(ten, mask8, 2), stub(ten, mask8, 0), stub(ten, mask8, 1))
	wantNets("one of three", toNet(ten, 8, widest, hop(1, 2)))
	l[last-2] = router(t, last-1, line(last-2, 0, dearest), line(last, 1, dearest), stub(ten, mask8, dearest), stub(ten, mask16, dearest-1))
	end(stub(ten, mask8, 1), stub(ten, mask16, 0), stub(ten, mask24, 1))
	wantNets("the one ahead of it", toNet(ten, 8, widest, hop(1, 2)), toNet(ten, 16, widest-1, hop(1, 2)))
}

func TestResolve(t *testing.T) {
	a, b, c, d := hop(1, 5), hop(2, 0), hop(2, 6), hop(3, 7)
	v5, v6, v9 := virtualHop(9, 5), virtualHop(9, 6), virtualHop(8, 9)
	five, six := toRouter(5, 4, a, c), toRouter(6, 4, b, c)
	for _, x := range []struct {
		what    string
		hops    []tree.Hop
		transit []inner.Way
		want    []tree.Hop
		leftOut bool
	}{
		{"at hand", nil, list(five), nil, false},
		{"at hand, without transit", []tree.Hop{}, nil, nil, false},
		{"none is Virtual", list(a, b), list(five), list(a, b), false},
		{"none is Virtual, without transit", list(a), nil, list(a), false},
		{"one that is not has the Via of a way", list(hop(9, 5)), list(five), list(hop(9, 5)), false},
		{"one", list(v5), list(five), list(a, c), false},
		{"one of two ways", list(v6), list(five, six), list(b, c), false},
		{"two by one router", list(virtualHop(8, 5), v5), list(five, six), list(a, c), false},
		{"two by two", list(v5, v6), list(five, six), list(a, b, c), false},
		{"beside others", list(b, d, v5), list(five), list(a, b, c, d), false},
		{"what is the same already", list(c, v5), list(five), list(a, c), false},
		{"nowhere", list(v9), list(five, six), nil, true},
		{"nowhere, without transit", list(v5, v6), nil, nil, true},
		{"nowhere, but one leads on", list(v5, v9), list(five), list(a, c), false},
		{"nowhere, but another hop stays", list(b, v9), list(five), list(b), false},
		{"the first counts", list(v5), list(toRouter(5, 9, d), five), list(d), false},
		{"the first counts, dearer and farther on", list(v5), list(six, toRouter(5, 9, d), five), list(d), false},
		{"the first is at hand", list(v5), list(toRouter(5, 9), five), nil, true},
		{"the first is Virtual", list(v5), list(toRouter(5, 9, v6), five, six), nil, true},
		{"the way has one that is Virtual, too", list(v5), list(toRouter(5, 9, a, v6, d), six), list(a, d), false},
		{"the way has itself", list(v5), list(toRouter(5, 9, v5)), nil, true},
		{"a way to a prefix", list(v5), list(toNet(5, 32, 1, d), five), list(a, c), false},
		{"a Via of 0 is that of a way to a prefix", list(virtualHop(9, 0)), list(five, toNet(5, 32, 1, d)), list(d), false},
		{"a Via of 0 where no way leads to a prefix", list(virtualHop(9, 0)), list(five, six), nil, true},
		{"out of order, and twice", list(d, v5, b, b), list(toRouter(5, 9, c, a, c)), list(a, b, c, d), false},
		{"the largest", list(virtualHop(widest, widest)), list(toRouter(widest, widest, hop(widest, widest))), list(hop(widest, widest)), false},
	} {
		w := inner.Way{Net: api.Prefix{Addr: ten, Bits: 8}, Router: 2, Flags: 3, Kind: 4, Area: 5, Cost: 6, Far: 7, Tag: 8, Hops: x.hops}
		want := w
		want.Hops = x.want
		got := inner.Resolve(list(w), x.transit)
		if x.leftOut && len(got) > 0 || !x.leftOut && !sameWays(got, list(want)) {
			t.Errorf("P18.2: %s: %v by %+v: got %+v; want hops %v", x.what, x.hops, x.transit, got, x.want)
		}
	}
	if len(inner.Resolve(nil, list(five)))+len(inner.Resolve([]inner.Way{}, nil)) != 0 {
		t.Error("P18.2: something comes of nothing")
	}
}

// TestResolveOrder: ways stay in their order, as they are but for their hops; what one has is no matter to the next one.
func TestResolveOrder(t *testing.T) {
	five := toRouter(5, 4, hop(1, 5), hop(2, 5), hop(3, 5))
	v := virtualHop(9, 5)
	l := list(toNet(ten, 16, 9, v), toNet(ten, 8, 9, virtualHop(9, 6)), toRouter(7, 3), toRouter(5, 1, v), toNet(ten, 8, 2, hop(4, 4)), toNet(ten, 16, 9, hop(2, 5), virtualHop(9, 6)), toRouter(7, 3))
	want := list(toNet(ten, 16, 9, five.Hops...), toRouter(7, 3), toRouter(5, 1, five.Hops...), toNet(ten, 8, 2, hop(4, 4)), toNet(ten, 16, 9, hop(2, 5)), toRouter(7, 3))
	if got := inner.Resolve(l, list(five)); !sameWays(got, want) {
		t.Errorf("P18.2:\n got %+v\nwant %+v", got, want)
	}
}

// TestLargest: R1: a router with as many stubs as its state has room for, and as many routers as may be, all of which have one prefix.
func TestLargest(t *testing.T) {
	const most = (65535-24)/12 - 1
	links := list(line(1, 0, 1))
	for i := range most {
		links = append(links, stub(uint32(most-i)<<8, mask24, uint16(i)))
	}
	nets, _ := inner.Routes(list(router(t, 2, links...), router(t, 1, line(2, 0, 1))), 0, 1)
	if len(nets) != most || !sameWay(nets[0], toNet(1<<8, 24, most, hop(0, 2))) || !sameWay(nets[most-1], toNet(most<<8, 24, 1, hop(0, 2))) {
		t.Errorf("P18.1: %d ways to %d prefixes of one router", len(nets), most)
	}

	const many = api.MaxStates - 2
	l := list(network(t, ten, 1))
	var ids []uint32
	for id := uint32(1); id <= many+1; id++ {
		ids = append(ids, id)
		l = append(l, router(t, id, transit(ten, id, 1), stub(ten<<1, mask8, 2)))
	}
	l[0] = network(t, ten, ids...)
	l[1] = router(t, 1, transit(ten, 1, 1))
	nets, routers := inner.Routes(l, 0, 1)
	if len(nets) != 2 || len(routers) != many || nets[1].Cost != 3 || len(nets[1].Hops) != many || nets[1].Hops[many-1] != hop(1, many+1) {
		t.Errorf("P18.1: %d prefixes and %d routers of a large network", len(nets), len(routers))
	}
}
