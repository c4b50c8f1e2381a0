package spread_test

import (
	"slices"

	"lodestar/api"
	"lodestar/order"
	"lodestar/spread"
)

// old: the chapter's word.
func old(h api.Head) bool { return h.Age&^0x8000 >= 3600 }

// judgeWords: P15.1, sentence by sentence.
func judgeWords(c spread.Came) uint8 {
	if old(c.Got) && !c.Has && !c.Busy {
		return spread.Confirm
	}
	if !c.Has || order.Newer(c.Got, c.Own) == 1 {
		if c.Has && !c.Mine && c.Since < 1 {
			return spread.Drop
		}
		return spread.Take
	}
	if c.Asked {
		return spread.Again
	}
	if order.Newer(c.Got, c.Own) == 0 {
		return spread.Same
	}
	if old(c.Own) && c.Own.Seq == 1<<31-1 {
		return spread.Drop
	}
	if c.Sent < 1 {
		return spread.Drop
	}
	return spread.Reply
}

// goesWords: P15.2, sentence by sentence.
func goesWords(stage uint8, wants bool, wanted, h api.Head, from bool) (send, got bool) {
	if stage != 1 && stage != 2 && stage != 3 {
		return false, false
	}
	if (stage == 1 || stage == 2) && wants {
		if order.Newer(wanted, h) == 1 {
			return false, false
		}
		if order.Newer(wanted, h) == 0 {
			return false, true
		}
		got = true
	}
	return !from, got
}

// words: a list, told once more by the chapter's words: what time it is, and at which it was empty last.
type words struct {
	rxmt, now, empty int
	states           []api.State
}

func keyOf(h api.Head) api.Key { return api.Key{Type: h.Type, ID: h.ID, Adv: h.Adv} }

// find: where in l the state of that key stands; -1, if there is none.
func find(l []api.State, k api.Key) int {
	return slices.IndexFunc(l, func(s api.State) bool { return keyOf(s.Head) == k })
}

func (w *words) add(s api.State) {
	if len(w.states) == 0 {
		w.empty = w.now
	}
	w.drop(keyOf(s.Head))
	w.states = append(w.states, s)
}

func (w *words) confirm(h api.Head) bool {
	i := find(w.states, keyOf(h))
	return i >= 0 && order.Newer(h, w.states[i].Head) == 0 && w.drop(keyOf(h))
}

func (w *words) drop(k api.Key) bool {
	i := find(w.states, k)
	if i < 0 {
		return false
	}
	w.states = slices.Concat(w.states[:i], w.states[i+1:])
	return true
}

func (w *words) tick() []api.State {
	w.now++
	if len(w.states) == 0 || (w.now-w.empty)%w.rxmt != 0 {
		return nil
	}
	// The greatest n that fits, by each n anew; one, if none does.
	n := 1
	for m := range len(w.states) + 1 {
		size := 4
		for _, s := range w.states[:m] {
			size += 20 + len(s.Body)
		}
		if size <= 1500-44 {
			n = max(n, m)
		}
	}
	return w.states[:n]
}
