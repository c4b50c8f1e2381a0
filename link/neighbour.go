package link

import (
	"iter"

	"lodestar/api"
)

// neighbour: one of a link. Its Wanted is not kept, as it hangs on the link.
type neighbour struct {
	Neighbour
	told uint8 // of a peer: the Priority to go back to, when it is lost
	full bool  // said since it is TwoWay, from this Router
}

// voice: what of a neighbour may make a link elect anew; the zero value, if it is not TwoWay.
type voice struct {
	twoWay        bool
	router        uint32
	priority      uint8
	chief, backup bool // as it names itself
}

func every(*neighbour) bool { return true }

func (n *neighbour) gone() bool { return n.State == Gone }

func (n *neighbour) twoWay() bool { return n.State == TwoWay }

// known: is there a Router to tell of it?
func (n *neighbour) known() bool { return n.State == Heard || n.State == TwoWay }

func (n *neighbour) voice() voice {
	if !n.twoWay() {
		return voice{}
	}
	return voice{twoWay: true, router: n.Router, priority: n.Priority, chief: n.DR == n.Addr, backup: n.BDR == n.Addr}
}

// forgotten: the neighbour without all that was heard of it.
func (n *neighbour) forgotten() neighbour {
	return neighbour{Neighbour: Neighbour{Addr: n.Addr, Priority: n.told}, told: n.told}
}

// those: the neighbours that count, in order, each in its place, so that it can be changed there.
func (l *Link) those(counts func(*neighbour) bool) iter.Seq[*neighbour] {
	return func(yield func(*neighbour) bool) {
		for i := range l.neighbours {
			if n := &l.neighbours[i]; counts(n) && !yield(n) {
				return
			}
		}
	}
}

// find: the place of the first neighbour that counts; nil, if there is none.
func (l *Link) find(counts func(*neighbour) bool) *neighbour {
	for n := range l.those(counts) {
		return n
	}
	return nil
}

// still: is nothing sent to it, and nothing expected of it?
func (l *Link) still(n *neighbour) bool {
	return l.c.Demand && n.full && n.twoWay() && n.Opts&api.OptDC != 0
}

// expects: is it to be heard, or to be lost in time?
func (l *Link) expects(n *neighbour) bool { return !n.gone() && !l.still(n) }
