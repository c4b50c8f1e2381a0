package config_test

import (
	"math"
	"math/rand/v2"
	"reflect"
	"slices"
	"strconv"
	"strings"
	"testing"

	"lodestar/api"
	"lodestar/config"
)

func repeat[T any](n int, item func(i int) T) []T {
	var l []T
	for i := range n {
		l = append(l, item(i))
	}
	return l
}

func TestCheckFull(t *testing.T) {
	wantCheck(t, "full", full(), api.OK, 0, 0)
	wantCheck(t, "a router alone", api.Config{Router: 1}, api.OK, 0, 0)
	wantCheck(t, "lists without elements", api.Config{Router: 1, Areas: []api.Area{}, Ranges: []api.Range{}, Ifaces: []api.Iface{}, Virtuals: []api.Virtual{}, Outers: []api.Outer{}, Opaques: []api.Opaque{}}, api.OK, 0, 0)
	wantCheck(t, "nothing", api.Config{}, api.ErrConfig, 0, 0)
}

// change: of the full configuration, and what Check must say of it.
type change struct {
	what    string
	do      func(c *api.Config)
	e       api.Errno
	part, n int
}

func wantChanges(t *testing.T, rows []change) {
	t.Helper()
	for _, r := range rows {
		c := full()
		r.do(&c)
		wantCheck(t, r.what, c, r.e, r.part, r.n)
	}
}

func TestCheckWhole(t *testing.T) {
	wantChanges(t, []change{
		{"router 0", func(c *api.Config) { c.Router = 0 }, api.ErrConfig, 0, 0},
		{"router of all ones", func(c *api.Config) { c.Router = math.MaxUint32 }, api.OK, 0, 0},
		{"limit 0", func(c *api.Config) { c.Limit = 0 }, api.OK, 0, 0},
		{"limit -1", func(c *api.Config) { c.Limit = -1 }, api.ErrConfig, 0, 0},
		{"limit 4096", func(c *api.Config) { c.Limit = 4096 }, api.OK, 0, 0},
		{"limit 4097", func(c *api.Config) { c.Limit = 4097 }, api.ErrConfig, 0, 0},
		{"the least limit", func(c *api.Config) { c.Limit = math.MinInt }, api.ErrConfig, 0, 0},
		{"the greatest limit", func(c *api.Config) { c.Limit = math.MaxInt }, api.ErrConfig, 0, 0},
	})
}

// crowd: a configuration with so many items of each part, all of which may be.
func crowd(areas, ranges, ifaces, virtuals, outers, opaques int) api.Config {
	c := api.Config{Router: 1}
	c.Areas = repeat(areas, func(i int) api.Area { return api.Area{ID: uint32(i)} })
	c.Ranges = repeat(ranges, func(i int) api.Range { return api.Range{Prefix: api.Prefix{Addr: uint32(i) << 8, Bits: 24}} })
	c.Ifaces = repeat(ifaces, func(i int) api.Iface {
		return api.Iface{Name: "e-" + string(rune('a'+i/26)) + string(rune('a'+i%26)), Addr: uint32(i + 1), Cost: 1, Times: times, MTU: 576}
	})
	c.Virtuals = repeat(virtuals, func(i int) api.Virtual { return api.Virtual{Area: 1, Router: uint32(i + 2), Times: times} })
	c.Outers = repeat(outers, func(i int) api.Outer { return api.Outer{Prefix: api.Prefix{Addr: uint32(i) << 8, Bits: 24}} })
	c.Opaques = repeat(opaques, func(i int) api.Opaque { return api.Opaque{Type: 11, ID: uint32(i)} })
	return c
}

func TestCheckMany(t *testing.T) {
	wantCheck(t, "all at their limits", crowd(16, 256, 32, 32, 1024, 256), api.OK, 0, 0)
	wantCheck(t, "17 areas", crowd(17, 0, 0, 0, 0, 0), api.ErrMany, 1, 16)
	wantCheck(t, "257 ranges", crowd(2, 257, 0, 0, 0, 0), api.ErrMany, 2, 256)
	wantCheck(t, "33 interfaces", crowd(2, 0, 33, 0, 0, 0), api.ErrMany, 3, 32)
	wantCheck(t, "33 virtual links", crowd(2, 0, 0, 33, 0, 0), api.ErrMany, 4, 32)
	wantCheck(t, "1025 outer routes", crowd(2, 0, 0, 0, 1025, 0), api.ErrMany, 5, 1024)
	wantCheck(t, "257 opaque states", crowd(2, 0, 0, 0, 0, 257), api.ErrMany, 6, 256)
	c := crowd(20, 300, 40, 40, 1100, 300)
	wantCheck(t, "all too many", c, api.ErrMany, 1, 16)
	c.Areas[1].ID = 0
	c.Areas = c.Areas[:16]
	wantCheck(t, "too many ahead of what is wrong with an item", c, api.ErrMany, 2, 256)
	c.Ranges = nil
	wantCheck(t, "without ranges", c, api.ErrMany, 3, 32)
	c.Ifaces = nil
	wantCheck(t, "without interfaces", c, api.ErrMany, 4, 32)
	c.Virtuals = nil
	wantCheck(t, "without virtual links", c, api.ErrMany, 5, 1024)
	c.Outers = nil
	wantCheck(t, "without outer routes", c, api.ErrMany, 6, 256)
	c.Opaques = nil
	wantCheck(t, "without opaque states", c, api.ErrTwice, 1, 1)
	c.Router = 0
	c.Outers = make([]api.Outer, 1025)
	wantCheck(t, "the whole ahead of too many", c, api.ErrConfig, 0, 0)
}

func TestCheckAreas(t *testing.T) {
	wantChanges(t, []change{
		{"twice", func(c *api.Config) { c.Areas[2].ID = 1 }, api.ErrTwice, 1, 2},
		{"twice ahead of wrong", func(c *api.Config) { c.Areas[2] = api.Area{ID: 1, Kind: 3} }, api.ErrTwice, 1, 2},
		{"the first wrong, the second twice", func(c *api.Config) { c.Areas[1].Kind, c.Areas[2].ID = 3, 1 }, api.ErrConfig, 1, 1},
		{"kind 3", func(c *api.Config) { c.Areas[3].Kind = 3 }, api.ErrConfig, 1, 3},
		{"translate 3", func(c *api.Config) { c.Areas[1].Translate = 3 }, api.ErrConfig, 1, 1},
		{"area 0 a stub", func(c *api.Config) { c.Areas[0].Kind = 1 }, api.ErrConfig, 1, 0},
		{"area 0 a NSSA", func(c *api.Config) { c.Areas[0].Kind = 2 }, api.ErrConfig, 1, 0},
		{"cost 2^24 - 1", func(c *api.Config) { c.Areas[1].Cost = 1<<24 - 1 }, api.OK, 0, 0},
		{"cost 2^24", func(c *api.Config) { c.Areas[1].Cost = 1 << 24 }, api.ErrConfig, 1, 1},
		{"normal, no-summary", func(c *api.Config) { c.Areas[2].NoSummary = true }, api.ErrConfig, 1, 2},
		{"normal, cost 1", func(c *api.Config) { c.Areas[2].Cost = 1 }, api.ErrConfig, 1, 2},
		{"normal, translate", func(c *api.Config) { c.Areas[2].Translate = 1 }, api.ErrConfig, 1, 2},
		{"stub, translate", func(c *api.Config) { c.Areas[3].Translate = 2 }, api.ErrConfig, 1, 3},
		{"stub, no-summary, no cost", func(c *api.Config) { c.Areas[3].NoSummary, c.Areas[3].Cost = true, 0 }, api.OK, 0, 0},
	})
}

func TestCheckRanges(t *testing.T) {
	at := func(addr uint32, bits uint8) api.Prefix { return api.Prefix{Addr: addr, Bits: bits} }
	wantChanges(t, []change{
		{"of no area", func(c *api.Config) { c.Ranges[0].Area = 9 }, api.ErrArea, 2, 0},
		{"of no area, no prefix", func(c *api.Config) { c.Ranges[1].Area, c.Ranges[1].Prefix.Bits = 9, 33 }, api.ErrArea, 2, 1},
		{"33 bits", func(c *api.Config) { c.Ranges[1].Prefix.Bits = 33 }, api.ErrPrefix, 2, 1},
		{"a bit behind the mask", func(c *api.Config) { c.Ranges[2].Prefix.Addr++ }, api.ErrPrefix, 2, 2},
		{"no prefix, outer of a normal area", func(c *api.Config) { c.Ranges[2] = api.Range{Area: 2, Prefix: at(1, 8), Outer: true} }, api.ErrPrefix, 2, 2},
		{"outer of a normal area", func(c *api.Config) { c.Ranges[2].Outer = true }, api.ErrConfig, 2, 2},
		{"outer of a stub area", func(c *api.Config) { c.Ranges[2].Area, c.Ranges[2].Outer = 3, true }, api.ErrConfig, 2, 2},
		{"outer of a normal area ahead of twice", func(c *api.Config) {
			c.Ranges = []api.Range{{Area: 2}, {Area: 2, Outer: true}}
		}, api.ErrConfig, 2, 1},
		{"the same", func(c *api.Config) { c.Ranges = append(c.Ranges, c.Ranges[2]) }, api.ErrTwice, 2, 4},
		{"the same, but that it is not hidden", func(c *api.Config) {
			c.Ranges = append(c.Ranges, api.Range{Area: 2, Prefix: c.Ranges[2].Prefix})
		}, api.ErrTwice, 2, 4},
		{"one that covers another one", func(c *api.Config) { c.Ranges[0].Outer = false }, api.ErrTwice, 2, 1},
		{"one that another one covers", func(c *api.Config) { c.Ranges[1].Prefix = at(0x0A000000, 7) }, api.OK, 0, 0},
		{"side by side", func(c *api.Config) { c.Ranges[0] = api.Range{Area: 1, Prefix: at(0x0A000000, 16)} }, api.OK, 0, 0},
		{"of another area", func(c *api.Config) { c.Ranges[1].Area = 3 }, api.OK, 0, 0},
	})
}

func TestCheckIfaces(t *testing.T) {
	wantChanges(t, []change{
		{"addr 0", func(c *api.Config) { c.Ifaces[1].Addr = 0 }, api.ErrConfig, 3, 1},
		{"33 bits", func(c *api.Config) { c.Ifaces[1].Bits = 33 }, api.ErrConfig, 3, 1},
		{"kind 4", func(c *api.Config) { c.Ifaces[1].Kind = 4 }, api.ErrConfig, 3, 1},
		{"cost 0", func(c *api.Config) { c.Ifaces[1].Cost = 0 }, api.ErrConfig, 3, 1},
		{"cost 1", func(c *api.Config) { c.Ifaces[2].Cost = 1 }, api.OK, 0, 0},
		{"hello 0", func(c *api.Config) { c.Ifaces[1].Times.Hello = 0 }, api.ErrConfig, 3, 1},
		{"dead 0", func(c *api.Config) { c.Ifaces[1].Times.Dead = 0 }, api.ErrConfig, 3, 1},
		{"again 0", func(c *api.Config) { c.Ifaces[1].Times.Again = 0 }, api.ErrConfig, 3, 1},
		{"delay 0", func(c *api.Config) { c.Ifaces[1].Times.Delay = 0 }, api.ErrConfig, 3, 1},
		{"dead as hello", func(c *api.Config) { c.Ifaces[1].Times.Dead = 10 }, api.ErrConfig, 3, 1},
		{"dead one above hello", func(c *api.Config) { c.Ifaces[1].Times.Dead = 11 }, api.OK, 0, 0},
		{"poll 0 of a line", func(c *api.Config) { c.Ifaces[1].Times.Poll = 0 }, api.OK, 0, 0},
		{"poll 0 of multi", func(c *api.Config) { c.Ifaces[2].Times.Poll = 0 }, api.OK, 0, 0},
		{"poll 0 of nbma", func(c *api.Config) { c.Ifaces[0].Times.Poll = 0 }, api.ErrConfig, 3, 0},
		{"mtu 576", func(c *api.Config) { c.Ifaces[1].MTU = 576 }, api.OK, 0, 0},
		{"mtu 575", func(c *api.Config) { c.Ifaces[1].MTU = 575 }, api.ErrConfig, 3, 1},
		{"peers of a broadcast network", func(c *api.Config) { c.Ifaces[3].Peers = []api.Peer{{Addr: 1}} }, api.ErrConfig, 3, 3},
		{"peers of a line", func(c *api.Config) { c.Ifaces[1].Peers = []api.Peer{{Addr: 1}} }, api.ErrConfig, 3, 1},
		{"a list of no peers of a line", func(c *api.Config) { c.Ifaces[1].Peers = []api.Peer{} }, api.OK, 0, 0},
		{"a peer of addr 0", func(c *api.Config) { c.Ifaces[2].Peers[0].Addr = 0 }, api.ErrConfig, 3, 2},
		{"a peer twice", func(c *api.Config) { c.Ifaces[0].Peers[1].Addr = c.Ifaces[0].Peers[0].Addr }, api.ErrConfig, 3, 0},
		{"a peer of another one's addr", func(c *api.Config) { c.Ifaces[2].Peers[0].Addr = c.Ifaces[0].Peers[0].Addr }, api.OK, 0, 0},
		{"a peer of its own addr", func(c *api.Config) { c.Ifaces[2].Peers[0].Addr = c.Ifaces[2].Addr }, api.OK, 0, 0},
		{"demand of a broadcast network", func(c *api.Config) { c.Ifaces[3].Demand = true }, api.ErrConfig, 3, 3},
		{"demand of nbma", func(c *api.Config) { c.Ifaces[0].Demand = true }, api.ErrConfig, 3, 0},
		{"a name twice", func(c *api.Config) { c.Ifaces[2].Name = "e0" }, api.ErrTwice, 3, 2},
		{"an addr twice", func(c *api.Config) { c.Ifaces[2].Addr = c.Ifaces[0].Addr }, api.ErrTwice, 3, 2},
		{"wrong ahead of twice", func(c *api.Config) { c.Ifaces[2].Name, c.Ifaces[2].Cost = "e0", 0 }, api.ErrConfig, 3, 2},
		{"of no area", func(c *api.Config) { c.Ifaces[1].Area = 9 }, api.ErrArea, 3, 1},
		{"twice ahead of no area", func(c *api.Config) { c.Ifaces[1].Area, c.Ifaces[1].Name = 9, "e0" }, api.ErrTwice, 3, 1},
		{"a key that may not be", func(c *api.Config) { c.Ifaces[3].Keys[0].Secret = []byte("123456789") }, api.ErrKey, 3, 3},
		{"a key twice", func(c *api.Config) { c.Ifaces[0].Keys[1].ID = 1 }, api.ErrKey, 3, 0},
		{"17 keys", func(c *api.Config) {
			c.Ifaces[3].Keys = repeat(17, func(i int) api.AuthKey { return key(uint8(i), 1, "a") })
		}, api.ErrKey, 3, 3},
		{"16 keys", func(c *api.Config) {
			c.Ifaces[3].Keys = repeat(16, func(i int) api.AuthKey { return key(uint8(i), 1, "a") })
		}, api.OK, 0, 0},
		{"no area ahead of a key", func(c *api.Config) { c.Ifaces[3].Area, c.Ifaces[3].Keys[0].Kind = 9, 0 }, api.ErrArea, 3, 3},
	})
}

func TestCheckNames(t *testing.T) {
	for name, may := range map[string]bool{
		"": false, "a": true, "z": true, "a-": true, "-a": false, "0": false, "a0": true, "z9": true, "9z": false,
		"abcdefghijklmnop": true, "abcdefghijklmnopq": false, "a---------------": true, "a123456789012345": true,
		"A": false, "aB": false, "a_b": false, "a.b": false, "a b": false, "a/": false, "a:": false, "a`": false, "a{": false, "`": false, "{": false, "a\n": false, "a\x00": false, "\xe4": false, "aä": false, strings.Repeat("a", 5000): false,
	} {
		c := api.Config{Router: 1, Areas: []api.Area{{}}, Ifaces: []api.Iface{{Name: name, Addr: 1, Cost: 1, Times: times, MTU: 576}}}
		if may {
			wantCheck(t, "name "+strconv.Quote(name), c, api.OK, 0, 0)
		} else {
			wantCheck(t, "name "+strconv.Quote(name), c, api.ErrConfig, 3, 0)
		}
	}
}

func TestCheckManyPeers(t *testing.T) {
	c := full()
	c.Ifaces[0].Peers = repeat(200000, func(i int) api.Peer { return api.Peer{Addr: uint32(i + 1)} })
	if e, part, n := config.Check(c); e != api.OK || part != 0 || n != 0 {
		t.Errorf("P9.1: %d, %d, %d; want OK: there is no limit for peers", e, part, n)
	}
	c.Ifaces[0].Peers[199999].Addr = 1
	if e, part, n := config.Check(c); e != api.ErrConfig || part != 3 || n != 0 {
		t.Errorf("P9.1: %d, %d, %d; want ErrConfig, as the last peer has the first one's address", e, part, n)
	}
}

func TestCheckVirtuals(t *testing.T) {
	wantChanges(t, []change{
		{"through no area", func(c *api.Config) { c.Virtuals[0].Area = 9 }, api.ErrArea, 4, 0},
		{"through a stub area", func(c *api.Config) { c.Virtuals[1].Area = 3 }, api.ErrArea, 4, 1},
		{"through a NSSA", func(c *api.Config) { c.Virtuals[1].Area = 1 }, api.ErrArea, 4, 1},
		{"through the area 0", func(c *api.Config) { c.Virtuals[1].Area = 0 }, api.ErrArea, 4, 1},
		{"no area 0", func(c *api.Config) { c.Areas[0].ID, c.Ifaces[0].Area, c.Opaques = 7, 7, nil }, api.ErrArea, 4, 0},
		{"no area 0, no virtual links", func(c *api.Config) {
			c.Areas[0].ID, c.Ifaces[0].Area, c.Opaques, c.Virtuals = 7, 7, nil, nil
		}, api.OK, 0, 0},
		{"router 0", func(c *api.Config) { c.Virtuals[1].Router = 0 }, api.ErrConfig, 4, 1},
		{"to itself", func(c *api.Config) { c.Virtuals[1].Router = c.Router }, api.ErrConfig, 4, 1},
		{"no area ahead of router 0", func(c *api.Config) { c.Virtuals[1].Router, c.Virtuals[1].Area = 0, 9 }, api.ErrArea, 4, 1},
		{"hello 0", func(c *api.Config) { c.Virtuals[1].Times.Hello = 0 }, api.ErrConfig, 4, 1},
		{"dead as hello", func(c *api.Config) { c.Virtuals[1].Times.Dead = 65534 }, api.ErrConfig, 4, 1},
		{"again 0", func(c *api.Config) { c.Virtuals[1].Times.Again = 0 }, api.ErrConfig, 4, 1},
		{"delay 0", func(c *api.Config) { c.Virtuals[1].Times.Delay = 0 }, api.ErrConfig, 4, 1},
		{"twice", func(c *api.Config) { c.Virtuals[1].Router = c.Virtuals[0].Router }, api.ErrTwice, 4, 1},
		{"to one router through two areas", func(c *api.Config) {
			c.Areas = append(c.Areas, api.Area{ID: 4})
			c.Virtuals[1].Area, c.Virtuals[1].Router = 4, c.Virtuals[0].Router
		}, api.OK, 0, 0},
		{"wrong ahead of twice", func(c *api.Config) { c.Virtuals[1] = api.Virtual{Area: 2, Router: c.Virtuals[0].Router} }, api.ErrConfig, 4, 1},
		{"a key that may not be", func(c *api.Config) { c.Virtuals[0].Keys[1].Kind = 2 }, api.ErrKey, 4, 0},
		{"twice ahead of a key", func(c *api.Config) {
			c.Virtuals[1].Router, c.Virtuals[1].Keys = c.Virtuals[0].Router, []api.AuthKey{{}}
		}, api.ErrTwice, 4, 1},
	})
}

func TestCheckOuters(t *testing.T) {
	wantChanges(t, []change{
		{"33 bits", func(c *api.Config) { c.Outers[0].Prefix.Bits = 33 }, api.ErrPrefix, 5, 0},
		{"a bit behind the mask", func(c *api.Config) { c.Outers[1].Prefix.Addr = 1 }, api.ErrPrefix, 5, 1},
		{"metric 2^24", func(c *api.Config) { c.Outers[1].Metric = 1 << 24 }, api.ErrConfig, 5, 1},
		{"no prefix ahead of metric", func(c *api.Config) { c.Outers[1].Metric, c.Outers[1].Prefix.Addr = 1<<24, 1 }, api.ErrPrefix, 5, 1},
		{"twice", func(c *api.Config) { c.Outers[2].Prefix = c.Outers[0].Prefix }, api.ErrTwice, 5, 2},
		{"metric ahead of twice", func(c *api.Config) { c.Outers[2].Prefix, c.Outers[2].Metric = c.Outers[0].Prefix, 1<<24 }, api.ErrConfig, 5, 2},
	})
}

func TestCheckOpaques(t *testing.T) {
	data := func(n int) []byte { return make([]byte, n) }
	wantChanges(t, []change{
		{"type 8", func(c *api.Config) { c.Opaques[4].Type = 8 }, api.ErrConfig, 6, 4},
		{"type 12", func(c *api.Config) { c.Opaques[4].Type = 12 }, api.ErrConfig, 6, 4},
		{"type 0", func(c *api.Config) { c.Opaques[4].Type = 0 }, api.ErrConfig, 6, 4},
		{"1404 bytes", func(c *api.Config) { c.Opaques[0].Data = data(1404) }, api.ErrConfig, 6, 0},
		{"1400 bytes", func(c *api.Config) { c.Opaques[0].Data = data(1400) }, api.OK, 0, 0},
		{"1401 bytes", func(c *api.Config) { c.Opaques[0].Data = data(1401) }, api.ErrConfig, 6, 0},
		{"1399 bytes", func(c *api.Config) { c.Opaques[0].Data = data(1399) }, api.ErrConfig, 6, 0},
		{"1 byte", func(c *api.Config) { c.Opaques[3].Data = data(1) }, api.ErrConfig, 6, 3},
		{"2 bytes", func(c *api.Config) { c.Opaques[3].Data = data(2) }, api.ErrConfig, 6, 3},
		{"an interface of type 10", func(c *api.Config) { c.Opaques[3].Iface = "e0" }, api.ErrConfig, 6, 3},
		{"an interface of type 11", func(c *api.Config) { c.Opaques[4].Iface = "e0" }, api.ErrConfig, 6, 4},
		{"an area of type 9", func(c *api.Config) { c.Opaques[0].Area = 1 }, api.ErrConfig, 6, 0},
		{"an area of type 11", func(c *api.Config) { c.Opaques[4].Area = 1 }, api.ErrConfig, 6, 4},
		{"no such interface", func(c *api.Config) { c.Opaques[1].Iface = "p1" }, api.ErrNone, 6, 1},
		{"no interface", func(c *api.Config) { c.Opaques[1].Iface = "" }, api.ErrNone, 6, 1},
		{"no such area", func(c *api.Config) { c.Opaques[2].Area = 9 }, api.ErrArea, 6, 2},
		{"wrong ahead of no such interface", func(c *api.Config) { c.Opaques[1].Iface, c.Opaques[1].Data = "p1", data(1) }, api.ErrConfig, 6, 1},
		{"twice, type 9", func(c *api.Config) { c.Opaques[1].Iface = "e0" }, api.ErrTwice, 6, 1},
		{"twice, type 10", func(c *api.Config) { c.Opaques[3].Area = 1 }, api.ErrTwice, 6, 3},
		{"twice, type 11", func(c *api.Config) { c.Opaques[5].ID = 1 }, api.ErrTwice, 6, 5},
		{"another ID", func(c *api.Config) { c.Opaques[1].Iface, c.Opaques[1].ID = "e0", 2 }, api.OK, 0, 0},
	})
}

func TestCheckPartByPart(t *testing.T) {
	c := full()
	last := len(c.Areas) - 1
	c.Areas[last].Kind = 3
	c.Ranges[0].Prefix.Bits = 33
	c.Ifaces[0].Cost = 0
	c.Virtuals[0].Router = 0
	c.Outers[0].Prefix.Bits = 33
	c.Opaques[0].Type = 8
	wantCheck(t, "all parts wrong", c, api.ErrConfig, 1, last)
	c.Areas[last].Kind = 2
	wantCheck(t, "from the ranges on", c, api.ErrPrefix, 2, 0)
	c.Ranges = nil
	wantCheck(t, "from the interfaces on", c, api.ErrConfig, 3, 0)
	c.Ifaces[0].Cost = 1
	wantCheck(t, "from the virtual links on", c, api.ErrConfig, 4, 0)
	c.Virtuals = nil
	wantCheck(t, "from the outer routes on", c, api.ErrPrefix, 5, 0)
	c.Outers = nil
	wantCheck(t, "the opaque states", c, api.ErrConfig, 6, 0)
}

// shake sets one field that is picked by chance to a value that is near an edge, or another one's.
func shake(r *rand.Rand, c *api.Config) {
	var all []reflect.Value
	leaves(reflect.ValueOf(c).Elem(), "", func(_ string, v reflect.Value) { all = append(all, v) })
	// each kind of field as often as any other one, whatever bytes there are
	all = slices.DeleteFunc(all, func(v reflect.Value) bool { return v.Kind() == reflect.Uint8 && r.IntN(8) > 0 })
	v := all[r.IntN(len(all))]
	switch v.Kind() {
	case reflect.Bool:
		v.SetBool(!v.Bool())
	case reflect.String:
		v.SetString([]string{"", "e0", "p0", "m-0", "b", "B", "e_"}[r.IntN(7)])
	case reflect.Int:
		v.SetInt([]int64{0, -1, 1, 9, 10, 4096, 4097}[r.IntN(7)])
	case reflect.Uint8:
		v.SetUint([]uint64{0, 1, 2, 3, 4, 9, 10, 11, 12, 30, 32, 33}[r.IntN(12)])
	case reflect.Uint16:
		v.SetUint([]uint64{0, 1, 2, 3, 10, 40, 575, 576, 65535}[r.IntN(9)])
	default:
		v.SetUint([]uint64{0, 1, 2, 3, 9, 0x01010101, 0x02020202, 0x0A000000, 0x0A010000, 0x0A000001, 1 << 24, 1<<24 - 1, 1<<32 - 1}[r.IntN(13)])
	}
}

// drop takes an item of a list away, or lays it there once more.
func drop(r *rand.Rand, c *api.Config) {
	var all []reflect.Value
	lists(reflect.ValueOf(c).Elem(), "", func(_ string, v reflect.Value) {
		if v.Len() > 0 {
			all = append(all, v)
		}
	})
	v := all[r.IntN(len(all))]
	i := r.IntN(v.Len())
	if r.IntN(2) == 0 {
		v.Set(reflect.Append(v, v.Index(i)))
		return
	}
	v.Set(reflect.AppendSlice(v.Slice(0, i), v.Slice(i+1, v.Len())))
}

func shaken(r *rand.Rand) api.Config {
	c := full()
	c.Opaques[4].Data = c.Opaques[4].Data[:8]
	for range r.IntN(4) {
		if r.IntN(3) == 0 {
			drop(r, &c)
		} else {
			shake(r, &c)
		}
	}
	return c
}

func TestCheckByChance(t *testing.T) {
	r := rand.New(rand.NewPCG(9, 1))
	type answer struct {
		e    api.Errno
		part int
	}
	seen := map[answer]int{}
	for range 30000 {
		c := shaken(r)
		e, part, n := verdict(c)
		if f, p, m := config.Check(c); f != e || p != part || m != n {
			t.Fatalf("P9.1: Check of %+v: %d, %d, %d; want %d, %d, %d", c, f, p, m, e, part, n)
		}
		seen[answer{e, part}]++
	}
	for _, a := range []answer{
		{api.OK, 0}, {api.ErrConfig, 0}, {api.ErrTwice, 1}, {api.ErrConfig, 1}, {api.ErrArea, 2}, {api.ErrPrefix, 2}, {api.ErrConfig, 2}, {api.ErrTwice, 2},
		{api.ErrConfig, 3}, {api.ErrTwice, 3}, {api.ErrArea, 3}, {api.ErrKey, 3}, {api.ErrArea, 4}, {api.ErrConfig, 4}, {api.ErrTwice, 4}, {api.ErrKey, 4},
		{api.ErrPrefix, 5}, {api.ErrConfig, 5}, {api.ErrTwice, 5}, {api.ErrConfig, 6}, {api.ErrNone, 6}, {api.ErrTwice, 6},
	} {
		if seen[a] < 5 {
			t.Errorf("P9.1: %v came %d times alone: chance asks too little", a, seen[a])
		}
	}
}
