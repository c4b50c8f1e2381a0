package link_test

import (
	"slices"
	"testing"

	"lodestar/api"
	"lodestar/elect"
	"lodestar/link"
)

// words: a link, told once more by the chapter's words: it counts upward, from Up on, what the package counts down.
type words struct {
	c       link.Config
	state   uint8
	dr, bdr uint32
	reach   uint32
	ticks   int
	all     []*one
}

// one: a neighbour of it; silent: for how many ticks nothing was heard that was expected.
type one struct {
	router, addr, dr, bdr uint32
	state, priority, opts uint8
	silent                uint32
	full                  bool
}

func shared(c link.Config) bool { return c.Type == link.Broadcast || c.Type == link.NBMA }
func peers(c link.Config) bool  { return c.Type == link.NBMA || c.Type == link.Multi }
func line(c link.Config) bool   { return c.Type == link.Point || c.Type == link.Virtual }

func mask(bits uint8) uint32 {
	m := uint32(0)
	for i := range bits {
		m |= 1 << (31 - i)
	}
	return m
}

// right: P13.1.
func right(c link.Config) bool {
	switch {
	case c.Type > 4, c.Router == 0, c.Hello == 0, c.Dead == 0, c.Net.Bits > 32:
		return false
	case peers(c) && c.Poll == 0, !peers(c) && c.Poll > 0:
		return false
	case c.Type == link.Virtual:
		zero := c.Net.Addr == 0 && c.Net.Bits == 0 && c.Addr == 0
		return zero && c.Remote != 0 && c.Remote != c.Router && !c.Passive && len(c.Peers) == 0
	case c.Remote != 0, c.Addr == 0, c.Net.Addr&^mask(c.Net.Bits) != 0, c.Addr&mask(c.Net.Bits) != c.Net.Addr:
		return false
	case c.Demand && c.Type != link.Point, len(c.Peers) > 0 && !peers(c), len(c.Peers) > 64:
		return false
	}
	for i, p := range c.Peers {
		if p.Addr == 0 || p.Addr == c.Addr {
			return false
		}
		for _, q := range c.Peers[:i] {
			if p.Addr == q.Addr {
				return false
			}
		}
	}
	return true
}

// up: P13.2.
func (w *words) up() []link.Send {
	if w.state != link.Down {
		return nil
	}
	if w.c.Passive {
		w.state = link.Quiet
		return nil
	}
	w.state = link.Waiting
	if !shared(w.c) {
		w.state = link.Pair
	} else if w.c.Priority == 0 {
		w.state = link.Other
	}
	w.ticks = 0
	for _, p := range w.c.Peers {
		n := &one{addr: p.Addr, priority: p.Priority}
		if w.c.Type == link.Multi || w.c.Type == link.NBMA && w.c.Priority > 0 && p.Priority > 0 {
			n.state = link.Attempt
		}
		w.all = append(w.all, n)
	}
	return w.round()
}

func (w *words) down() { *w = words{c: w.c, reach: w.reach} }

func (w *words) still(n *one) bool {
	return w.c.Demand && n.full && n.state == link.TwoWay && n.opts&0x20 != 0
}

func (w *words) send(to uint32) link.Send {
	h := api.HelloBody{Mask: mask(w.c.Net.Bits), Interval: w.c.Hello, Opts: w.c.Opts, Priority: w.c.Priority, Dead: w.c.Dead, DR: w.dr, BDR: w.bdr}
	if w.c.Demand {
		h.Opts |= 0x20
	}
	for _, n := range w.all {
		if n.state == link.Heard || n.state == link.TwoWay {
			h.Neighbors = append(h.Neighbors, n.router)
		}
	}
	return link.Send{To: to, Hello: h}
}

// round: P13.3.
func (w *words) round() []link.Send {
	var l []link.Send
	if peers(w.c) {
		for _, n := range w.all {
			to := n.state != link.Gone
			if w.c.Type == link.NBMA && w.c.Priority > 0 {
				to = to && (n.priority > 0 || w.state == link.Backup || w.state == link.Chief)
			} else if w.c.Type == link.NBMA {
				to = to && (n.addr == w.dr || n.addr == w.bdr)
			}
			if to {
				l = append(l, w.send(n.addr))
			}
		}
		return l
	}
	for _, n := range w.all {
		if w.still(n) {
			return nil
		}
	}
	if w.c.Type != link.Virtual {
		return []link.Send{w.send(0xE0000005)}
	}
	if w.reach != 0 {
		l = append(l, w.send(w.reach))
	}
	return l
}

func (w *words) poll() []link.Send {
	var l []link.Send
	for _, n := range w.all {
		if n.state == link.Gone && (w.c.Type == link.Multi || w.c.Priority > 0 && n.priority > 0) {
			l = append(l, w.send(n.addr))
		}
	}
	return l
}

// tick: P13.4.
func (w *words) tick() []link.Send {
	if w.state == link.Down || w.state == link.Quiet {
		return nil
	}
	w.ticks++
	missed := false
	var kept []*one
	for i, n := range w.all {
		if n.state != link.Gone && !w.still(n) {
			n.silent++
		}
		if n.state != link.Gone && n.silent == w.c.Dead {
			missed = missed || n.state == link.TwoWay
			if !peers(w.c) {
				continue
			}
			n = &one{addr: w.c.Peers[i].Addr, priority: w.c.Peers[i].Priority}
		}
		kept = append(kept, n)
	}
	w.all = kept
	if w.state == link.Waiting {
		if uint32(w.ticks) == w.c.Dead {
			w.elect()
		}
	} else if w.state >= link.Other && missed {
		w.elect()
	}
	var l []link.Send
	if w.ticks%int(w.c.Hello) == 0 {
		l = append(l, w.round()...)
	}
	if peers(w.c) && w.ticks%int(w.c.Poll) == 0 {
		l = append(l, w.poll()...)
	}
	return l
}

// refuses: P13.5, each error by itself, in the chapter's order.
func (w *words) refuses(from, router uint32, h api.HelloBody) api.Errno {
	is := slices.IndexFunc(w.all, func(n *one) bool { return n.addr == from }) >= 0
	for _, x := range []struct {
		wrong bool
		e     api.Errno
	}{
		{w.state == link.Down || w.state == link.Quiet, 45},
		{h.Interval != w.c.Hello || h.Dead != w.c.Dead, 43},
		{!line(w.c) && h.Mask != mask(w.c.Net.Bits), 42},
		{h.Opts&2 != w.c.Opts&2 || h.Opts&8 != w.c.Opts&8, 44},
		{router == 0 || from == 0 || router == w.c.Router || from == w.c.Addr, 41},
		{w.c.Type == link.Broadcast && from&mask(w.c.Net.Bits) != w.c.Net.Addr, 41},
		{w.c.Type == link.Virtual && router != w.c.Remote, 46},
		{peers(w.c) && !slices.ContainsFunc(w.c.Peers, func(p link.Peer) bool { return p.Addr == from }), 46},
		{w.c.Type == link.Broadcast && !is && len(w.all) == 64, 47},
	} {
		if x.wrong {
			return x.e
		}
	}
	return 0
}

// hear: P13.5.
func (w *words) hear(from, router uint32, h api.HelloBody) ([]link.Send, api.Errno) {
	if e := w.refuses(from, router, h); e != 0 {
		return nil, e
	}
	at := slices.IndexFunc(w.all, func(n *one) bool {
		return line(w.c) && n.router == router || !line(w.c) && n.addr == from
	})
	before := one{}
	if at >= 0 {
		before = *w.all[at]
	}
	n := &one{router: router, addr: from, dr: h.DR, bdr: h.BDR, state: link.Heard, priority: h.Priority, opts: h.Opts}
	for _, x := range h.Neighbors {
		if x == w.c.Router {
			n.state = link.TwoWay
		}
	}
	n.full = before.full && n.state == link.TwoWay && before.router == router
	switch {
	case at >= 0:
		w.all[at] = n
	case line(w.c):
		w.all = []*one{n}
	default:
		w.all = append(w.all, n)
		slices.SortFunc(w.all, func(a, b *one) int { return int(int64(a.addr) - int64(b.addr)) })
	}
	if w.votes(before, *n) {
		w.elect()
	}
	if w.c.Type == link.NBMA && w.c.Priority == 0 && h.Priority != 0 && from != w.dr && from != w.bdr {
		return []link.Send{w.send(from)}, 0
	}
	return nil, 0
}

// votes: does what was heard make it elect?
func (w *words) votes(before, now one) bool {
	was, is := before.state == link.TwoWay, now.state == link.TwoWay
	if w.state == link.Waiting {
		return is && (now.bdr == now.addr || now.dr == now.addr && now.bdr == 0)
	}
	if w.state < link.Other {
		return false
	}
	if was != is {
		return true
	}
	names := before.dr == before.addr != (now.dr == now.addr) || before.bdr == before.addr != (now.bdr == now.addr)
	return was && is && (before.router != now.router || before.priority != now.priority || names)
}

func (w *words) elect() {
	var l []elect.Voice
	for _, n := range w.all {
		if n.state == link.TwoWay {
			l = append(l, elect.Voice{Router: n.router, Addr: n.addr, Priority: n.priority, DR: n.dr, BDR: n.bdr})
		}
	}
	w.dr, w.bdr = elect.Elect(elect.Voice{Router: w.c.Router, Addr: w.c.Addr, Priority: w.c.Priority, DR: w.dr, BDR: w.bdr}, l)
	w.state = link.Other
	if w.bdr == w.c.Addr {
		w.state = link.Backup
	}
	if w.dr == w.c.Addr {
		w.state = link.Chief
	}
	for _, n := range w.all {
		if w.c.Type == link.NBMA && w.state != link.Other && n.state == link.Gone {
			n.state, n.silent = link.Attempt, 0
		}
	}
}

// reached and filled: P13.6.
func (w *words) reached(addr uint32) {
	if w.c.Type == link.Virtual {
		w.reach = addr
	}
}

func (w *words) filled(addr uint32, is bool) {
	for _, n := range w.all {
		if n.addr == addr && n.state == link.TwoWay {
			n.full = is
		}
	}
}

// neighbours: P13.7.
func (w *words) neighbours() []link.Neighbour {
	var l []link.Neighbour
	for _, n := range w.all {
		x := link.Neighbour{Router: n.router, Addr: n.addr, State: n.state, Priority: n.priority, DR: n.dr, BDR: n.bdr, Opts: n.opts}
		if n.state != link.Gone {
			x.Left = w.c.Dead - n.silent
		}
		if n.state == link.TwoWay {
			x.Wanted = !shared(w.c) || w.state == link.Backup || w.state == link.Chief || w.state == link.Other && (n.addr == w.dr || n.addr == w.bdr)
		}
		l = append(l, x)
	}
	return l
}

func sameHello(a, b api.HelloBody) bool {
	plain := func(h api.HelloBody) [7]uint32 {
		return [...]uint32{h.Mask, uint32(h.Interval), uint32(h.Opts), uint32(h.Priority), h.Dead, h.DR, h.BDR}
	}
	return plain(a) == plain(b) && slices.Equal(a.Neighbors, b.Neighbors)
}

func sameSends(a, b []link.Send) bool {
	return slices.EqualFunc(a, b, func(x, y link.Send) bool { return x.To == y.To && sameHello(x.Hello, y.Hello) })
}

func wantSends(t *testing.T, what string, got, want []link.Send) {
	t.Helper()
	if !sameSends(got, want) {
		t.Fatalf("%s: sends\n%v; want\n%v", what, got, want)
	}
}

// wantSame holds all that a link tells of itself against the words.
func wantSame(t *testing.T, what string, l *link.Link, w *words) {
	t.Helper()
	if l.State() != w.state {
		t.Fatalf("P13.7: %s: state %d; want %d", what, l.State(), w.state)
	}
	dr, bdr := l.Chiefs()
	if dr != w.dr || bdr != w.bdr {
		t.Fatalf("P13.7: %s: chiefs %x, %x; want %x, %x", what, dr, bdr, w.dr, w.bdr)
	}
	if got, want := l.Neighbours(), w.neighbours(); !slices.Equal(got, want) {
		t.Fatalf("P13.7: %s: neighbours\n%v; want\n%v", what, got, want)
	}
}
