package link_test

import (
	"math/rand/v2"
	"slices"
	"strconv"
	"strings"
	"testing"

	"lodestar/api"
	"lodestar/link"
)

const net = 0x0A000000

// pick: one of them, by chance.
func pick[T any](r *rand.Rand, l ...T) T { return l[r.IntN(len(l))] }

// someConfig: one that may be, of few numbers, so that rows of calls meet often.
func someConfig(r *rand.Rand) link.Config {
	c := link.Config{
		Type: uint8(r.IntN(5)), Router: uint32(1 + r.IntN(4)),
		Net: api.Prefix{Addr: net, Bits: pick[uint8](r, 24, 29)}, Addr: net + uint32(1+r.IntN(4)),
		Opts: pick[uint8](r, 0, 2, 8, 0x20, 0x42, 0xFF), Hello: uint16(1 + r.IntN(4)), Dead: uint32(1 + r.IntN(8)), Priority: uint8(r.IntN(3)),
		Passive: r.IntN(20) == 0,
	}
	switch c.Type {
	case link.NBMA, link.Multi:
		c.Poll = uint16(1 + r.IntN(7))
		for _, i := range r.Perm(6) {
			if a := net + uint32(i+1); a != c.Addr && r.IntN(4) > 0 {
				c.Peers = append(c.Peers, link.Peer{Addr: a, Priority: uint8(r.IntN(3))})
			}
		}
	case link.Point:
		c.Demand = r.IntN(3) > 0
	case link.Virtual:
		c.Demand, c.Passive, c.Net, c.Addr = r.IntN(3) > 0, false, api.Prefix{}, 0
		c.Remote = c.Router%4 + 1
	}
	return c
}

// someHello: one that c takes, but for a fault now and then.
func someHello(r *rand.Rand, c link.Config) (from, router uint32, h api.HelloBody) {
	from, router = net+uint32(1+r.IntN(6)), uint32(1+r.IntN(4))
	if c.Type == link.Virtual && r.IntN(10) > 0 {
		router = c.Remote
	}
	named := []uint32{0, 0, from, from, c.Addr, net + uint32(r.IntN(8))}
	h = api.HelloBody{
		Mask: mask(c.Net.Bits), Interval: c.Hello, Opts: c.Opts&0x0A | pick[uint8](r, 0, 0x20, 0x20, 0x40, 0xF5), Priority: uint8(r.IntN(3)), Dead: c.Dead,
		DR: pick(r, named...), BDR: pick(r, named...),
	}
	for range r.IntN(3) {
		h.Neighbors = append(h.Neighbors, uint32(1+r.IntN(4)))
	}
	if r.IntN(4) > 0 {
		h.Neighbors = slices.Insert(h.Neighbors, r.IntN(len(h.Neighbors)+1), c.Router)
	}
	for r.IntN(8) == 0 {
		switch r.IntN(8) {
		case 0:
			h.Interval++
		case 1:
			h.Dead--
		case 2:
			h.Mask ^= 1 << r.IntN(32)
		case 3:
			h.Opts ^= pick[uint8](r, 2, 8, 10)
		case 4:
			from = pick(r, 0, c.Addr, net, net+8, net+256)
		case 5:
			router = pick(r, 0, c.Router)
		case 6:
			from = net + uint32(r.IntN(8))
		case 7:
			router = uint32(r.IntN(9))
		}
	}
	return from, router, h
}

// step does one thing by chance to a link and to the words, and holds them against each other; it tells what it did.
func step(t *testing.T, r *rand.Rand, l *link.Link, w *words, row string) string {
	t.Helper()
	what := ""
	switch n := r.IntN(40); {
	case n == 0 && r.IntN(4) == 0:
		what = "Down"
		l.Down()
		w.down()
	case n <= 1:
		what = "Up"
		wantSends(t, "P13.2: "+row+what, l.Up(), w.up())
	case n <= 3:
		addr := pick[uint32](r, 0, net+9, 7)
		what = "Reach " + strconv.Itoa(int(addr))
		l.Reach(addr)
		w.reached(addr)
	case n <= 6:
		addr, is := net+uint32(r.IntN(8)), r.IntN(4) > 0
		if len(w.all) > 0 {
			addr = w.all[r.IntN(len(w.all))].addr
		}
		what = "Full " + strconv.FormatBool(is)
		l.Full(addr, is)
		w.filled(addr, is)
	case n <= 22:
		what = "Tick"
		wantSends(t, "P13.4: "+row+what, l.Tick(), w.tick())
	default:
		from, router, h := someHello(r, w.c)
		what = "Hear " + strconv.Itoa(int(from&0xFF)) + "/" + strconv.Itoa(int(router))
		got, e := l.Hear(from, router, h)
		want, f := w.hear(from, router, h)
		if e != f {
			t.Fatalf("P13.5: %s%s %v of %v: %d; want %d", row, what, h, w.c, e, f)
		}
		wantSends(t, "P13.5: "+row+what, got, want)
	}
	return what
}

// TestRowsOfCalls: links of all types, each through a row of calls by chance.
func TestRowsOfCalls(t *testing.T) {
	rows := 20000
	if testing.Short() {
		rows = 2000
	}
	r := rand.New(rand.NewPCG(13, 1))
	for range rows {
		c := someConfig(r)
		if !right(c) {
			t.Fatalf("P13.1: %v is none that may be", c)
		}
		l, e := link.New(c)
		if e != api.OK {
			t.Fatalf("P13.1: New(%v): %d", c, e)
		}
		w := &words{c: c}
		var done []string
		wantSame(t, "New", l, w)
		for range 60 {
			row := strings.Join(done, ", ") + ": "
			done = append(done, step(t, r, l, w, row))
			wantSame(t, strings.Join(done, ", "), l, w)
		}
	}
}

// TestSomeConfigs: any of few numbers: they are made just if the words let them be.
func TestSomeConfigs(t *testing.T) {
	r := rand.New(rand.NewPCG(13, 2))
	made := 0
	for range 200000 {
		c := someConfig(r)
		for r.IntN(3) > 0 {
			spoil(r, &c)
		}
		l, e := link.New(c)
		if right(c) {
			made++
			if l == nil || e != api.OK {
				t.Fatalf("P13.1: New(%v): %d", c, e)
			}
			wantSame(t, "New", l, &words{c: c})
		} else if l != nil || e != api.ErrConfig {
			t.Fatalf("P13.1: New(%v): %v, %d; want ErrConfig", c, l, e)
		}
	}
	if made < 50000 || made > 150000 {
		t.Errorf("%d were made: too few or too many to tell", made)
	}
}

// spoil sets one field to what may be wrong there.
func spoil(r *rand.Rand, c *link.Config) {
	switch r.IntN(13) {
	case 0:
		c.Type = uint8(r.IntN(7))
	case 1:
		c.Router = uint32(r.IntN(3))
	case 2:
		c.Net.Bits = pick[uint8](r, 0, 8, 24, 29, 31, 32, 33, 255)
	case 3:
		c.Net.Addr = pick[uint32](r, 0, net, net+8, net+256, c.Addr)
	case 4:
		c.Addr = pick[uint32](r, 0, net, net+3, net+9, 1<<31)
	case 5:
		c.Hello = uint16(r.IntN(2))
	case 6:
		c.Dead = uint32(r.IntN(2))
	case 7:
		c.Poll = uint16(r.IntN(2))
	case 8:
		c.Demand = !c.Demand
	case 9:
		c.Passive = !c.Passive
	case 10:
		c.Peers = append(c.Peers, link.Peer{Addr: pick[uint32](r, 0, net+3, c.Addr, 5)})
	case 11:
		c.Peers = nil
	case 12:
		c.Remote = uint32(r.IntN(5))
	}
}
