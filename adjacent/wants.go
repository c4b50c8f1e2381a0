package adjacent

import (
	"slices"

	"lodestar/api"
	"lodestar/order"
)

// wants: heads that are wanted, each key once, in the order in which the keys came.
type wants struct {
	heads map[api.Key]api.Head
	keys  []api.Key
}

func makeWants() wants { return wants{heads: map[api.Key]api.Head{}} }

func (w *wants) none() bool { return len(w.keys) == 0 }

// add: h is wanted, unless one of its key is that is as new.
func (w *wants) add(h api.Head) {
	k := keyOf(h)
	old, is := w.heads[k]
	if !is {
		w.keys = append(w.keys, k)
	}
	if !is || order.Newer(h, old) > 0 {
		w.heads[k] = h
	}
}

// drop: that of h's key is wanted no more, unless it is newer than h; the place where it was, -1, if nothing goes.
func (w *wants) drop(h api.Head) int {
	k := keyOf(h)
	old, is := w.heads[k]
	if !is || order.Newer(old, h) > 0 {
		return -1
	}
	delete(w.heads, k)
	at := slices.Index(w.keys, k)
	w.keys = slices.Delete(w.keys, at, at+1)
	return at
}

// first: the keys of the first n at most.
func (w *wants) first(n int) []api.Key { return slices.Clone(w.keys[:min(n, len(w.keys))]) }

// all: the heads, in order.
func (w *wants) all() []api.Head {
	var all []api.Head
	for _, k := range w.keys {
		all = append(all, w.heads[k])
	}
	return all
}

func keyOf(h api.Head) api.Key { return api.Key{Type: h.Type, ID: h.ID, Adv: h.Adv} }
