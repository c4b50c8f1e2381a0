package spread

import (
	"bytes"

	"lodestar/api"
	"lodestar/order"
	"lodestar/state"
)

const (
	// room: so many bytes the link states of one Update may have, their number's four counted out.
	room = api.MTU - 44 - 4
	// headSize: so many bytes a head has.
	headSize = 20
)

// List: what a neighbour has not confirmed.
type List struct {
	// rxmt is 0 where New did not make it.
	rxmt   uint16
	waited uint16 // ticks since the list was empty, or since some of it was sent again
	places map[api.Key]*place
	// ends has no state; behind it stands the first place, ahead of it the last.
	ends *place
}

// place: where a state stands in the ring of them, so that each goes without being looked for.
type place struct {
	api.State
	before, after *place
}

// New: a list without link states, of which some are sent again each rxmt ticks; ErrArg, if that is never.
func New(rxmt uint16) (*List, api.Errno) {
	if rxmt == 0 {
		return nil, api.ErrArg
	}
	l := &List{rxmt: rxmt}
	l.empty()
	return l, api.OK
}

// Add: s is to be confirmed, behind all others, and what there was of its key no more.
func (l *List) Add(s api.State) {
	if !l.made() {
		return
	}
	if len(l.places) == 0 {
		l.waited = 0
	}
	k := state.Key(s.Head)
	l.remove(k)
	p := &place{State: own(s), before: l.ends.before, after: l.ends}
	p.before.after, p.after.before = p, p
	l.places[k] = p
}

// Confirm: the neighbour says that it has h; true, if just that was to be confirmed.
func (l *List) Confirm(h api.Head) bool {
	if !l.made() {
		return false
	}
	k := state.Key(h)
	p, is := l.places[k]
	return is && order.Newer(p.Head, h) == 0 && l.remove(k)
}

// Drop: that of the key is to be confirmed no more; was there one?
func (l *List) Drop(k api.Key) bool { return l.made() && l.remove(k) }

// Clear: nothing is to be confirmed.
func (l *List) Clear() {
	if l.made() {
		l.empty()
	}
}

// Tick: a second has gone by; what is sent again.
func (l *List) Tick() []api.State {
	if !l.made() || len(l.places) == 0 {
		return nil
	}
	l.waited++
	if l.waited < l.rxmt {
		return nil
	}
	l.waited = 0
	return l.packet()
}

// All: what is to be confirmed, in order.
func (l *List) All() []api.State {
	if !l.made() {
		return nil
	}
	var all []api.State
	for s := range l.states {
		all = append(all, own(s))
	}
	return all
}

// Len: how many are to be confirmed.
func (l *List) Len() int {
	if !l.made() {
		return 0
	}
	return len(l.places)
}

func (l *List) made() bool { return l != nil && l.rxmt != 0 }

func (l *List) empty() {
	l.places = map[api.Key]*place{}
	l.ends = &place{}
	l.ends.before, l.ends.after = l.ends, l.ends
}

func (l *List) remove(k api.Key) bool {
	p, is := l.places[k]
	if !is {
		return false
	}
	p.before.after, p.after.before = p.after, p.before
	delete(l.places, k)
	return true
}

// packet: the first states that one Update has room for; the very first, whether it has or not, as it would never be sent again.
func (l *List) packet() []api.State {
	var some []api.State
	left := room
	for s := range l.states {
		left -= headSize + len(s.Body)
		if left < 0 && len(some) > 0 {
			break
		}
		some = append(some, own(s))
	}
	return some
}

// states goes through them in order; they are the list's own memory.
func (l *List) states(yield func(api.State) bool) {
	for p := l.ends.after; p != l.ends; p = p.after {
		if !yield(p.State) {
			return
		}
	}
}

// own: s with body bytes that nobody else has.
func own(s api.State) api.State { return api.State{Head: s.Head, Body: bytes.Clone(s.Body)} }
