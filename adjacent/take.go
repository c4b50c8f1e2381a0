package adjacent

import (
	"slices"

	"lodestar/api"
	"lodestar/order"
)

// meet: a description in Start: who is master is told by it.
func (a *Adjacency) meet(p api.DDBody, own []api.Head) ([]Out, api.Errno) {
	leads := a.leads(p)
	switch {
	case !leads && !a.follows(p):
		return nil, api.ErrSeq
	case !a.mayBe(p.Heads):
		return a.refuse()
	}
	a.state, a.master, a.left = Exchange, leads, young(own)
	return a.take(p, own), api.OK
}

// follows: is p the first one of a master?
func (a *Adjacency) follows(p api.DDBody) bool {
	return a.c.Other > a.c.Self && p.Flags == first && len(p.Heads) == 0
}

// leads: is p the answer to the own first one?
func (a *Adjacency) leads(p api.DDBody) bool {
	return a.c.Other < a.c.Self && p.Flags&(api.FlagI|api.FlagMS) == 0 && p.Seq == a.number
}

// exchange: a description in Exchange.
func (a *Adjacency) exchange(p api.DDBody, own []api.Head) ([]Out, api.Errno) {
	if a.fits(p) { // the last one again never does, by its number
		return a.take(p, own), api.OK
	}
	return a.late(p, own)
}

// late: a description when no more are awaited; the other may not have heard the last answer.
func (a *Adjacency) late(p api.DDBody, _ []api.Head) ([]Out, api.Errno) {
	switch {
	case a.took != markOf(p):
		return a.refuse()
	case a.master:
		return nil, api.OK
	}
	return a.repeat(), api.OK
}

// fits: is p the next one?
func (a *Adjacency) fits(p api.DDBody) bool {
	number := a.number
	if !a.master {
		number++
	}
	master := p.Flags&api.FlagMS != 0
	return p.Flags&api.FlagI == 0 && master != a.master && p.Opts == a.took.opts && p.Seq == number && a.mayBe(p.Heads)
}

// mayBe: are all of them of a type that may be?
func (a *Adjacency) mayBe(heads []api.Head) bool {
	return !slices.ContainsFunc(heads, func(h api.Head) bool { return a.c.Types>>h.Type&1 == 0 })
}

// take: p is the next one; what it has is wanted, where it is better than what there is.
func (a *Adjacency) take(p api.DDBody, own []api.Head) []Out {
	a.took = markOf(p)
	has := byKey(own)
	for _, h := range p.Heads {
		if mine, is := has[keyOf(h)]; !is || order.Newer(h, mine) > 0 {
			a.wants.add(h)
		}
	}
	if a.master {
		return a.lead(p)
	}
	return a.follow(p)
}

// lead: what the master does with a description that it took.
func (a *Adjacency) lead(p api.DDBody) []Out {
	if a.last(p) {
		return a.end()
	}
	a.number++
	return a.next()
}

// follow: what one that is no master does with a description that it took.
func (a *Adjacency) follow(p api.DDBody) []Out {
	a.number = p.Seq
	out := a.next()
	if a.last(p) {
		out = append(out, a.end()...)
	}
	return out
}

// last: have both said all, with p and the last that was sent?
func (a *Adjacency) last(p api.DDBody) bool { return (p.Flags|a.sent.Flags)&api.FlagM == 0 }

// end: both have said all; what is wanted is requested.
func (a *Adjacency) end() []Out {
	if a.wants.none() {
		a.state = Full
		return nil
	}
	a.state = Loading
	return a.request()
}

// tooSoon: a request ahead of all descriptions.
func (a *Adjacency) tooSoon([]api.Key, []api.Head) ([]api.Key, []Out, api.Errno) {
	return nil, nil, api.ErrState
}

// answer: a request; of what was described all must be there.
func (a *Adjacency) answer(keys []api.Key, own []api.Head) ([]api.Key, []Out, api.Errno) {
	has := byKey(own)
	for _, k := range keys {
		if _, is := has[k]; !is {
			out, e := a.refuse()
			return nil, out, e
		}
	}
	return slices.Clone(keys), nil, api.OK
}

// drop: what is there is wanted no more.
func (a *Adjacency) drop(h api.Head) []Out {
	a.wants.drop(h)
	return nil
}

// load: as drop, in Loading: when all of a request is there, the next follows.
func (a *Adjacency) load(h api.Head) []Out {
	if at := a.wants.drop(h); at < 0 || at >= a.asked {
		return nil
	}
	a.asked--
	if a.asked > 0 {
		return nil
	}
	return a.end()
}

func markOf(p api.DDBody) mark { return mark{flags: p.Flags, opts: p.Opts, number: p.Seq} }

// young: those that are not old, as a list of their own.
func young(own []api.Head) []api.Head {
	return slices.DeleteFunc(slices.Clone(own), func(h api.Head) bool { return order.Old(h.Age) })
}

func byKey(own []api.Head) map[api.Key]api.Head {
	has := make(map[api.Key]api.Head, len(own))
	for _, h := range own {
		has[keyOf(h)] = h
	}
	return has
}
