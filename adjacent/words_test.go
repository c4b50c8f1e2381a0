package adjacent_test

import (
	"slices"

	"lodestar/adjacent"
	"lodestar/api"
	"lodestar/order"
)

// words: an adjacency, told once more by the chapter's words: it keeps all that it sent and took, and at which time.
type words struct {
	c       adjacent.Config
	state   uint8
	master  bool
	number  uint32
	left    []api.Head
	sent    []api.DDBody
	took    []api.DDBody
	wanted  []api.Head
	request []api.Key
	now, at int
}

func keyOf(h api.Head) api.Key { return api.Key{Type: h.Type, ID: h.ID, Adv: h.Adv} }

// find: where in l the head of that key stands; -1, if there is none.
func find(l []api.Head, k api.Key) int {
	return slices.IndexFunc(l, func(h api.Head) bool { return keyOf(h) == k })
}

// right: P14.1.
func right(c adjacent.Config) bool {
	return !(c.Self == 0 || c.Other == 0 || c.Self == c.Other || c.Rxmt == 0)
}

func newWords(c adjacent.Config) (*words, []adjacent.Out) {
	w := &words{c: c, number: c.Seq}
	return w, w.first()
}

func (w *words) description(flags uint8, heads []api.Head) []adjacent.Out {
	d := api.DDBody{MTU: w.c.MTU, Opts: w.c.Opts, Flags: flags, Seq: w.number, Heads: heads}
	w.sent = append(w.sent, d)
	w.at = w.now
	return []adjacent.Out{{Describe: true, DD: d}}
}

func (w *words) first() []adjacent.Out { return w.description(7, nil) }

func (w *words) anew() []adjacent.Out {
	*w = words{c: w.c, number: w.number + 1, sent: w.sent, now: w.now}
	return w.first()
}

func (w *words) next() []adjacent.Out {
	var heads []api.Head
	for len(w.left) > 0 && len(heads) < 16 {
		heads = append(heads, w.left[0])
		w.left = w.left[1:]
	}
	flags := uint8(0)
	if w.master {
		flags = 1
	}
	if len(w.left) > 0 {
		flags += 2
	}
	return w.description(flags, heads)
}

func (w *words) mayBe(p api.DDBody) bool {
	for _, h := range p.Heads {
		if h.Type > 15 || w.c.Types&(1<<h.Type) == 0 {
			return false
		}
	}
	return true
}

func notOld(own []api.Head) []api.Head {
	var l []api.Head
	for _, h := range own {
		if !order.Old(h.Age) {
			l = append(l, h)
		}
	}
	return l
}

func has(p api.DDBody, flag uint8) bool { return p.Flags&flag != 0 }

// describe: P14.2.
func (w *words) describe(p api.DDBody, own []api.Head) ([]adjacent.Out, api.Errno) {
	if w.c.MTU != 0 && p.MTU > w.c.MTU {
		return nil, api.ErrLength
	}
	if w.state == adjacent.Start {
		return w.inStart(p, own)
	}
	last := w.took[len(w.took)-1]
	if p.Flags == last.Flags && p.Opts == last.Opts && p.Seq == last.Seq {
		if w.master {
			return nil, api.OK
		}
		return []adjacent.Out{{Describe: true, DD: w.sent[len(w.sent)-1]}}, api.OK
	}
	number := w.number
	if !w.master {
		number++
	}
	if w.state == adjacent.Exchange && !has(p, 4) && has(p, 1) == !w.master && p.Opts == last.Opts && p.Seq == number && w.mayBe(p) {
		return w.take(p, own), api.OK
	}
	return w.anew(), api.ErrSeq
}

func (w *words) inStart(p api.DDBody, own []api.Head) ([]adjacent.Out, api.Errno) {
	switch {
	case p.Flags == 7 && len(p.Heads) == 0 && w.c.Other > w.c.Self:
		w.master, w.number = false, p.Seq
	case !has(p, 4) && !has(p, 1) && p.Seq == w.number && w.c.Other < w.c.Self:
		if !w.mayBe(p) {
			return w.anew(), api.ErrSeq
		}
		w.master = true
	default:
		return nil, api.ErrSeq
	}
	w.left, w.state = notOld(own), adjacent.Exchange
	return w.take(p, own), api.OK
}

func (w *words) take(p api.DDBody, own []api.Head) []adjacent.Out {
	w.took = append(w.took, p)
	for _, h := range p.Heads {
		if i := find(own, keyOf(h)); i >= 0 && order.Newer(own[i], h) >= 0 {
			continue
		}
		if i := find(w.wanted, keyOf(h)); i < 0 {
			w.wanted = append(w.wanted, h)
		} else if order.Newer(w.wanted[i], h) < 0 {
			w.wanted[i] = h
		}
	}
	if w.master {
		if !has(w.sent[len(w.sent)-1], 2) && !has(p, 2) {
			return w.end()
		}
		w.number++
		return w.next()
	}
	w.number = p.Seq
	out := w.next()
	if !has(out[0].DD, 2) && !has(p, 2) {
		out = append(out, w.end()...)
	}
	return out
}

func (w *words) end() []adjacent.Out {
	if len(w.wanted) == 0 {
		w.state = adjacent.Full
		return nil
	}
	w.state = adjacent.Loading
	return w.requests()
}

func (w *words) requests() []adjacent.Out {
	w.request = nil
	for _, h := range w.wanted {
		if len(w.request) < 16 {
			w.request = append(w.request, keyOf(h))
		}
	}
	w.at = w.now
	return []adjacent.Out{{Keys: w.request}}
}

// ask: P14.3.
func (w *words) ask(keys []api.Key, own []api.Head) ([]api.Key, []adjacent.Out, api.Errno) {
	if w.state == adjacent.Start {
		return nil, nil, api.ErrState
	}
	for _, k := range keys {
		if find(own, k) < 0 {
			return nil, w.anew(), api.ErrSeq
		}
	}
	return keys, nil, api.OK
}

// got: P14.4.
func (w *words) got(h api.Head) []adjacent.Out {
	i := find(w.wanted, keyOf(h))
	if i < 0 || order.Newer(w.wanted[i], h) > 0 {
		return nil
	}
	w.wanted = slices.Delete(w.wanted, i, i+1)
	if w.state != adjacent.Loading || slices.ContainsFunc(w.request, func(k api.Key) bool { return find(w.wanted, k) >= 0 }) {
		return nil
	}
	return w.end()
}

// tick: P14.5.
func (w *words) tick() []adjacent.Out {
	w.now++
	if w.now-w.at < int(w.c.Rxmt) {
		return nil
	}
	switch {
	case w.state == adjacent.Start, w.state == adjacent.Exchange && w.master:
		w.at = w.now
		return []adjacent.Out{{Describe: true, DD: w.sent[len(w.sent)-1]}}
	case w.state == adjacent.Loading:
		return w.requests()
	}
	return nil
}

// opts: P14.6.
func (w *words) opts() uint8 {
	if len(w.took) == 0 {
		return 0
	}
	return w.took[len(w.took)-1].Opts
}
