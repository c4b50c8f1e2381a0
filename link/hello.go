package link

import (
	"lodestar/api"
	"lodestar/prefix"
)

// round: the Hellos that are sent every Hello ticks.
func (l *Link) round() []Send {
	switch {
	case l.c.withPeers():
		return l.toEach(l.greets)
	case l.find(l.still) != nil:
		return nil
	case l.c.Type == Virtual:
		return l.to(l.reach)
	}
	return l.to(api.AllRouters)
}

// poll: the Hellos that are sent every Poll ticks.
func (l *Link) poll() []Send { return l.toEach(l.polls) }

// greets: is a round's Hello sent to that one, of a link with peers?
func (l *Link) greets(n *neighbour) bool {
	switch {
	case n.gone():
		return false
	case l.c.Type == Multi:
		return true
	case l.c.Priority == 0:
		return l.designated(n.Addr)
	}
	return n.Priority > 0 || l.leads()
}

// polls: is a poll's Hello sent to that one, of a link with peers?
func (l *Link) polls(n *neighbour) bool {
	return n.gone() && (l.c.Type == Multi || l.c.Priority > 0 && n.Priority > 0)
}

func (l *Link) toEach(counts func(*neighbour) bool) []Send {
	var all []Send
	for n := range l.those(counts) {
		all = append(all, l.to(n.Addr)...)
	}
	return all
}

// to: a Hello to that address; none, if it is 0.
func (l *Link) to(addr uint32) []Send {
	if addr == 0 {
		return nil
	}
	return []Send{{To: addr, Hello: l.hello()}}
}

// hello: what the link says of itself, in memory of its own.
func (l *Link) hello() api.HelloBody {
	h := api.HelloBody{
		Mask:     l.mask(),
		Interval: l.c.Hello,
		Opts:     l.c.Opts,
		Priority: l.c.Priority,
		Dead:     l.c.Dead,
		DR:       l.dr,
		BDR:      l.bdr,
	}
	if l.c.Demand {
		h.Opts |= api.OptDC
	}
	for n := range l.those((*neighbour).known) {
		h.Neighbors = append(h.Neighbors, n.Router)
	}
	return h
}

// mask: that of its Net; 0 of a Virtual link, whose Net has no bits.
func (l *Link) mask() uint32 { return prefix.Mask(l.c.Net.Bits) }
