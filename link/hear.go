package link

import (
	"slices"

	"lodestar/api"
	"lodestar/prefix"
)

// Hear: a Hello has come from that address, of that router; what is answered to it.
func (l *Link) Hear(from, router uint32, h api.HelloBody) ([]Send, api.Errno) {
	if !l.made() {
		return nil, api.ErrArg
	}
	if e := l.refusal(from, router, h); e != api.OK {
		return nil, e
	}
	n := l.place(from, router)
	before := *n
	*n = before.after(from, router, h, l.c)
	if t := l.turns()[l.state]; t.hear != nil && t.hear(before, *n) {
		l.elect()
	}
	if l.answers(from, h) {
		return l.to(from), api.OK
	}
	return nil, api.OK
}

// refusal: why a Hello is not taken; OK, if it is.
func (l *Link) refusal(from, router uint32, h api.HelloBody) api.Errno {
	switch {
	case !l.runs():
		return api.ErrState
	case h.Interval != l.c.Hello || h.Dead != l.c.Dead:
		return api.ErrTimes
	case !l.c.alone() && h.Mask != l.mask():
		return api.ErrMask
	case (h.Opts^l.c.Opts)&(api.OptE|api.OptNP) != 0:
		return api.ErrOptions
	case !l.mayCome(from, router):
		return api.ErrSource
	case !l.awaits(from, router):
		return api.ErrPeer
	case l.c.Type == Broadcast && len(l.neighbours) >= api.MaxRouters && l.known(from, router) == nil:
		return api.ErrFull
	}
	return api.OK
}

// mayCome: may those be another one's address and router?
func (l *Link) mayCome(from, router uint32) bool {
	if from == 0 || router == 0 || from == l.c.Addr || router == l.c.Router {
		return false
	}
	return l.c.Type != Broadcast || prefix.Has(l.c.Net, from)
}

// awaits: was the link told of that one, if it must be told?
func (l *Link) awaits(from, router uint32) bool {
	switch {
	case l.c.Type == Virtual:
		return router == l.c.Remote
	case l.c.withPeers():
		return l.known(from, router) != nil
	}
	return true
}

// known: the neighbour of that address, or, where there is but one, of that router; nil, if it is new.
func (l *Link) known(from, router uint32) *neighbour {
	return l.find(func(n *neighbour) bool {
		if l.c.alone() {
			return n.Router == router
		}
		return n.Addr == from
	})
}

// place: where the neighbour stands, which is made, if it is new.
func (l *Link) place(from, router uint32) *neighbour {
	if n := l.known(from, router); n != nil {
		return n
	}
	if l.c.alone() {
		l.neighbours = make([]neighbour, 1)
		return &l.neighbours[0]
	}
	i := slices.IndexFunc(l.neighbours, func(n neighbour) bool { return n.Addr > from })
	if i < 0 {
		i = len(l.neighbours)
	}
	l.neighbours = slices.Insert(l.neighbours, i, neighbour{})
	return &l.neighbours[i]
}

// after: the neighbour as that Hello tells of it.
func (n *neighbour) after(from, router uint32, h api.HelloBody, c Config) neighbour {
	x := Neighbour{Router: router, Addr: from, State: Heard, Priority: h.Priority, DR: h.DR, BDR: h.BDR, Opts: h.Opts, Left: c.Dead}
	if slices.Contains(h.Neighbors, c.Router) {
		x.State = TwoWay
	}
	full := n.full && x.State == TwoWay && n.Router == router
	return neighbour{Neighbour: x, told: n.told, full: full}
}

// answers: is that Hello answered at once? Who may not lead greets nobody but who leads: another one that may lead would not know of it.
func (l *Link) answers(from uint32, h api.HelloBody) bool {
	return l.c.Type == NBMA && l.c.Priority == 0 && h.Priority > 0 && !l.designated(from)
}
