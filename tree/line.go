package tree

import "container/heap"

// step: a node that is reached by ways of that cost and hop.
type step struct {
	node int
	cost uint32
	hop  Hop
}

// line: nodes that wait, as a heap: the cheapest first, and of these by their hops. A way that goes on never gets cheaper, and its hop only gains a Via; so each node gets its hops in order.
type line []step

func (l *line) wait(s step) { heap.Push(l, s) }

// next: the first one, which waits no more.
func (l *line) next() step {
	s, _ := heap.Pop(l).(step)
	return s
}

func (l line) Len() int { return len(l) }

func (l line) Less(i, j int) bool {
	if l[i].cost != l[j].cost {
		return l[i].cost < l[j].cost
	}
	return compare(l[i].hop, l[j].hop) < 0
}

func (l line) Swap(i, j int) { l[i], l[j] = l[j], l[i] }

// Push and Pop are for the heap alone.
func (l *line) Push(x any) {
	if s, is := x.(step); is {
		*l = append(*l, s)
	}
}

func (l *line) Pop() any {
	end := len(*l) - 1
	last := (*l)[end]
	*l = (*l)[:end]
	return last
}
