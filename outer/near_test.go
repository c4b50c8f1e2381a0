package outer_test

import (
	"testing"

	"lodestar/api"
	"lodestar/inner"
)

// TestToRouter: of several ways to a boundary router the one that is taken, however the list stands.
func TestToRouter(t *testing.T) {
	h := hop(1, 5)
	l := list(told(t, 5, metric(3)))
	to := func(area, cost uint32) inner.Way { return toBoundary(5, area, cost, h) }
	for _, c := range []struct {
		what    string
		want    inner.Way
		against []inner.Way
	}{
		{"one", to(0, 10), nil},
		{"one of another area", to(9, 10), nil},
		{"one between areas", over(to(0, 10)), nil},
		{"one between areas, of another area", over(to(9, 10)), nil},
		{"of the area 0, the least", to(0, 10), list(to(0, 11), over(to(0, 12)), to(0, widest))},
		{"of other areas, the least", to(2, 10), list(to(3, 11), to(1, 12), to(9, widest))},
		{"of two areas, the greater", to(2, 10), list(to(1, 10), to(1, 10))},
		{"of many areas, the greatest", to(widest, 10), list(to(1, 10), to(1<<31, 10), to(1<<31-1, 10))},
		{"within an area not 0, though it is dearer", to(1, 99), list(to(0, 10), over(to(0, 9)), over(to(2, 1)), to(1, 100))},
		{"within the area 0, that is cheaper than between areas", to(0, 10), list(over(to(0, 11)), over(to(7, 11)))},
		{"between areas, that is cheaper than within the area 0", over(to(0, 9)), list(to(0, 10))},
		{"between areas, of the greater area", over(to(7, 10)), list(to(0, 10), over(to(6, 10)))},
	} {
		want := toNet(twenty, 8, 3, c.want.Cost+3, h)
		want.Area = c.want.Area
		routers := append(list(c.want), c.against...)
		for range routers {
			routers = append(routers[1:], routers[0])
			wantRoutes(t, c.what, l, routers, nil, want)
		}
	}
	first, second := toBoundary(5, 2, 10, hop(1, 1)), toBoundary(5, 2, 10, hop(2, 2))
	want := toNet(twenty, 8, 3, 13, hop(1, 1))
	want.Area = 2
	wantRoutes(t, "of equal ones the first alone", l, list(first, second, second), nil, want)
	odd := toBoundary(5, 2, 10, hop(2, 2))
	odd.Kind = 3
	wantRoutes(t, "any other Kind stands behind those within an area not 0", l, list(odd, toBoundary(5, 2, 11, hop(1, 1))), nil, inner.Way{Net: want.Net, Kind: 3, Area: 2, Cost: 14, Hops: want.Hops})
}

// TestBoundaries: which ways are ways to the router, whose Flags have FlagE.
func TestBoundaries(t *testing.T) {
	h := hop(1, 5)
	plain, all := toBoundary(5, 1, 1, hop(9, 9)), toBoundary(5, 0, 10, h)
	plain.Flags, all.Flags = ^api.FlagE, 255
	net := toBoundary(5, 1, 1, hop(9, 9))
	net.Net = prefixOf(ten, 8)
	l, want := list(told(t, 5, metric(3)), told(t, 5, metric(4))), toNet(twenty, 8, 3, 13, h)
	for _, c := range []struct {
		what    string
		routers []inner.Way
		leads   bool
	}{
		{"one", list(toBoundary(5, 0, 10, h)), true},
		{"one with all flags", list(all), true},
		{"one without the flag", list(plain), false},
		{"one without the flag is no matter", list(plain, all, plain), true},
		{"others are no matter", list(toBoundary(4, 1, 1, h), all, toBoundary(6, 1, 1, h), toBoundary(ten, 1, 1, h)), true},
		{"only others", list(toBoundary(4, 1, 1, h), toBoundary(6, 1, 1, h)), false},
		{"what names a prefix, too, is no way to a router", list(net), false},
		{"such is no matter", list(net, all, net), true},
	} {
		if c.leads {
			wantRoutes(t, c.what, l, c.routers, nil, want)
		} else {
			wantRoutes(t, c.what, l, c.routers, list(toNet(0, 0, 1, 1, h)))
		}
	}
	wantRoutes(t, "to the router 0 no way leads", list(told(t, 0, metric(3))), list(toBoundary(0, 0, 10, h), toBoundary(5, 0, 10, h)), nil)
	wantRoutes(t, "the greatest ID", list(told(t, widest, metric(3))), list(toBoundary(widest, 0, 10, h)), nil, want)
}

// TestForward: a Forward counts only where a way leads to the router, too; which one is no matter then.
func TestForward(t *testing.T) {
	h, k := hop(1, 5), hop(2, 6)
	nets := list(toNet(ten, 8, 1, 4, k))
	plain := toBoundary(5, 0, 1, h)
	plain.Flags = 0
	for _, b := range list(metric(3), metric2(3)) {
		s := list(told(t, 5, by(b, ten+1)))
		want := toNet(twenty, 8, 3, 7, k)
		if b.Type2 {
			want = farNet(twenty, 8, 4, 3, k)
		}
		wantRoutes(t, "no way to its router", s, nil, nets)
		wantRoutes(t, "no way to its router", s, list(toBoundary(6, 0, 1, h), plain), nets)
		for _, cost := range list[uint32](0, 1, 4, 99, widest) {
			wantRoutes(t, "whatever the way to its router costs", s, list(toBoundary(5, 0, cost, h)), nets, want)
		}
		wantRoutes(t, "no way to the address", list(told(t, 5, by(b, 11<<24))), list(toBoundary(5, 0, 1, h)), nets)
		wantRoutes(t, "the address 0 is none", list(told(t, 5, by(b, 0))), list(toBoundary(5, 0, 4, k)), list(toNet(0, 0, 1, 99, h)), want)
	}
}

// TestToAddress: the way to an address, by what its prefix has, and by its bits.
func TestToAddress(t *testing.T) {
	k := hop(2, 6)
	for _, c := range []struct {
		addr, net uint32
		bits      uint8
		leads     bool
	}{
		{1, 0, 0, true}, {widest, 0, 0, true}, {ten, 0, 0, true}, {ten, ten, 8, true}, {ten + 0xFFFFFF, ten, 8, true}, {ten - 1, ten, 8, false}, {11 << 24, ten, 8, false},
		{widest, widest, 32, true}, {widest - 1, widest, 32, false}, {1, 1, 32, true}, {1<<31 - 1, 1 << 31, 1, false}, {1 << 31, 1 << 31, 1, true}, {1<<31 - 1, 0, 1, true}, {1 << 31, 0, 1, false},
		{ten + 2, ten + 2, 31, true}, {ten + 3, ten + 2, 31, true}, {ten + 4, ten + 2, 31, false}, {ten + 1, ten + 2, 31, false},
		{ten + 1, ten + 1, 8, false}, {ten, ten + 1, 8, false}, {ten + 1, ten, 33, false}, {ten, ten, 40, false}, {ten, ten, 255, false}, {ten, 0, 33, false},
	} {
		for _, kind := range list[uint8](0, 1, 2, 3, 4, 5, 255) {
			l, routers, nets := list(told(t, 5, by(metric(3), c.addr))), list(toBoundary(5, 0, 1, hop(1, 5))), list(toNet(c.net, c.bits, kind, 4, k))
			if c.leads && (kind == 1 || kind == 2) {
				wantRoutes(t, "a prefix that has the address", l, routers, nets, toNet(twenty, 8, 3, 7, k))
			} else {
				wantRoutes(t, "a prefix that has not the address, or of another Kind", l, routers, nets)
			}
		}
	}
}

// TestLongest: of the prefixes that have the address the one with the most bits, of equal ones the first, whatever they cost.
func TestLongest(t *testing.T) {
	l, routers := list(told(t, 5, by(metric(3), 0x0A010203))), list(toBoundary(5, 0, 1, hop(1, 5)))
	var nets []inner.Way
	for bits := range uint8(33) {
		addr := uint32(uint64(0x0A010203) >> (32 - bits) << (32 - bits))
		way, apart := toNet(addr, bits, 1+bits%2, 99+uint32(bits), hop(7, uint32(bits))), toNet(0x0A010204, 32, 1, 0, hop(9, 9))
		want := toNet(twenty, 8, 3, 102+uint32(bits), hop(7, uint32(bits)))
		wantRoutes(t, "behind shorter ones", l, routers, append(nets, apart, way), want)
		nets = append(list(way), nets...)
		wantRoutes(t, "ahead of shorter ones", l, routers, append(nets, apart), want)
		cheaper := toNet(addr, bits, 1, 0, hop(8, 8))
		wantRoutes(t, "ahead of a cheaper one", l, routers, append(nets, cheaper, cheaper), want)
		wantRoutes(t, "behind others of that prefix, of another Kind", l, routers, append(list(toNet(addr, bits, 3, 0), toNet(addr, bits, 0, 0)), nets...), want)
		wantRoutes(t, "beside longer ones, of another Kind", l, routers, append(list(toNet(0x0A010203, 32, 3, 0), toNet(0x0A010203, 32, 4, 0)), nets...), want)
		wantRoutes(t, "behind one of another Area", l, routers, append(list(inner.Way{Net: way.Net, Kind: 2, Area: 7, Cost: 1}), nets...), inner.Way{Net: want.Net, Kind: 3, Area: 7, Cost: 4})
	}
	toRouter := toBoundary(5, 0, 1, hop(3, 5))
	wantRoutes(t, "a way to a router has no prefix", l, routers, list(toRouter))
	wantRoutes(t, "a way to 0.0.0.0/0 behind it", l, routers, list(toRouter, toNet(0, 0, 1, 4, hop(2, 6))), toNet(twenty, 8, 3, 7, hop(2, 6)))
}
