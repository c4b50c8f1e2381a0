package spread_test

import (
	"math/rand/v2"
	"slices"
	"testing"

	"lodestar/adjacent"
	"lodestar/api"
	"lodestar/spread"
)

// TestAgainAndAgain: what is not confirmed is sent again, however long that takes; what is confirmed, or outbid, is not.
func TestAgainAndAgain(t *testing.T) {
	first, outbid, confirmed := of(1, 9), of(2, 9), of(3, 9)
	l := newList(t, 4, first, outbid, confirmed)
	newer := outbid
	newer.Head.Seq, newer.Body = 6, []byte{6}
	l.Add(newer)
	if !l.Confirm(confirmed.Head) {
		t.Fatal("P15.5: Confirm")
	}
	for range 1000 {
		wantTicks(t, "again and again", l, 4, first, newer)
		if l.Confirm(outbid.Head) {
			t.Fatal("P15.5: who confirms the older one has not the newer one")
		}
	}
}

// lan: routers on one shared network, all full, the first of them DR, the second BDR; what flies there, and how many of a hundred are lost.
type lan struct {
	r       *rand.Rand
	routers []*onLan
	way     []flies
	lost    int
	again   int // so many were sent again
}

// onLan: what one of them has, at which time each came, and was sent back to whom; its neighbours' lists, and what is to be confirmed.
type onLan struct {
	now   int
	has   map[api.Key]api.Head
	since map[api.Key]int
	back  map[api.Key]map[int]int
	lists map[int]*spread.List
	later []api.Head
}

// flies: states, or heads that are confirmed, on their way.
type flies struct {
	from, to int
	states   []api.State
	heads    []api.Head
}

const chief, backup = 0, 1

// near: are they adjacent? On a shared network all are with the DR and the BDR alone.
func near(a, b int) bool { return a != b && min(a, b) <= backup }

func newLan(t *testing.T, n, lost int, r *rand.Rand) *lan {
	t.Helper()
	x := &lan{r: r, lost: lost}
	for i := range n {
		o := &onLan{has: map[api.Key]api.Head{}, since: map[api.Key]int{}, back: map[api.Key]map[int]int{}, lists: map[int]*spread.List{}}
		for j := range n {
			if near(i, j) {
				o.lists[j] = newList(t, 5)
			}
		}
		x.routers = append(x.routers, o)
	}
	return x
}

// send: to one, or, to being -1, to all that are near.
func (x *lan) send(f flies) {
	for i := range x.routers {
		if near(f.from, i) && (f.to < 0 || f.to == i) {
			one := f
			one.to = i
			x.way = append(x.way, one)
		}
	}
}

// put: router i has s from now on; it came from another, or, from being -1, it is its own. Did it go back out?
func (x *lan) put(i int, s api.State, from int) bool {
	o, k, some := x.routers[i], keyOf(s.Head), false
	o.has[k], o.since[k] = s.Head, o.now
	for j, l := range o.lists {
		l.Drop(k)
		if send, _ := spread.Goes(adjacent.Full, false, api.Head{}, s.Head, j == from); send {
			l.Add(s)
			some = true
		}
	}
	if !some || !spread.Out(true, i == chief, i == backup, from >= 0, from == chief, from == backup) {
		return false
	}
	x.send(flies{from: i, to: -1, states: []api.State{s}})
	return from >= 0
}

// ticksSince: those since then; very many, if that never was.
func ticksSince(now int, then int, is bool) uint32 {
	if !is {
		return 1<<32 - 1
	}
	return uint32(now - then)
}

// take: router i gets s of another.
func (x *lan) take(i, from int, s api.State) {
	o, k := x.routers[i], keyOf(s.Head)
	own, has := o.has[k]
	then, sent := o.back[k][from]
	verdict := spread.Judge(spread.Came{
		Got: s.Head, Has: has, Own: own, Since: uint32(o.now - o.since[k]), Sent: ticksSince(o.now, then, sent), Mine: s.Head.Adv == uint32(i),
	})
	back, implied := false, false
	switch verdict {
	case spread.Take:
		back = x.put(i, s, from)
	case spread.Same:
		implied = o.lists[from].Confirm(s.Head)
	case spread.Reply:
		if o.back[k] == nil {
			o.back[k] = map[int]int{}
		}
		o.back[k][from] = o.now
		x.send(flies{from: i, to: from, states: []api.State{{Head: own}}})
	}
	switch spread.Confirms(verdict, back, i == backup, from == chief, implied) {
	case spread.Later:
		o.later = append(o.later, s.Head)
	case spread.AtOnce:
		x.send(flies{from: i, to: from, heads: []api.Head{s.Head}})
	}
}

// tick: all that is on the way is delivered, or lost; then a second goes by.
func (x *lan) tick() {
	for len(x.way) > 0 {
		f := x.way[0]
		x.way = x.way[1:]
		if x.r.IntN(100) < x.lost {
			continue
		}
		for _, h := range f.heads {
			x.routers[f.to].lists[f.from].Confirm(h)
		}
		for _, s := range f.states {
			x.take(f.to, f.from, s)
		}
	}
	for i, o := range x.routers {
		o.now++
		for j := range x.routers {
			if l := o.lists[j]; l.Len() > 0 {
				s := l.Tick()
				x.again += len(s)
				x.send(flies{from: i, to: j, states: s})
			}
		}
		if len(o.later) > 0 {
			x.send(flies{from: i, to: -1, heads: o.later})
			o.later = nil
		}
	}
}

// quiet: is nothing left to be confirmed?
func (x *lan) quiet() bool {
	return !slices.ContainsFunc(x.routers, func(o *onLan) bool {
		for _, l := range o.lists {
			if l.Len() > 0 {
				return true
			}
		}
		return false
	})
}

func (x *lan) wantAll(t *testing.T, what string, s api.State) {
	t.Helper()
	if !x.quiet() {
		t.Fatalf("P15.5: %s: something is still not confirmed", what)
	}
	for i, o := range x.routers {
		if o.has[keyOf(s.Head)] != s.Head {
			t.Fatalf("P15.1: %s: router %d has %v, not %v", what, i, o.has, s.Head)
		}
	}
}

// TestNothingLost: what any of them says comes to all, each confirms it in time, and nothing has to be sent again.
func TestNothingLost(t *testing.T) {
	for n := 2; n < 7; n++ {
		for who := range n {
			x := newLan(t, n, 0, rand.New(rand.NewPCG(15, 2)))
			s := api.State{Head: api.Head{Type: 1, ID: uint32(who), Adv: uint32(who), Seq: 1}}
			for range 3 {
				x.put(who, s, -1)
				for range 4 {
					x.tick()
				}
				x.wantAll(t, "nothing lost", s)
				s.Head.Seq++
			}
			if x.again != 0 {
				t.Errorf("P15.4: of %d, said by %d: %d were sent again, though nothing was lost", n, who, x.again)
			}
		}
	}
}

// TestMuchLost: whatever is lost, all come to have the newest, and confirm it.
func TestMuchLost(t *testing.T) {
	rows := 300
	if testing.Short() {
		rows = 60
	}
	r := rand.New(rand.NewPCG(15, 3))
	for range rows {
		x := newLan(t, 2+r.IntN(5), 20+r.IntN(60), r)
		who := r.IntN(len(x.routers))
		s := api.State{Head: api.Head{Type: 1, ID: uint32(who), Adv: uint32(who)}}
		for range 1 + r.IntN(5) {
			s.Head.Seq++
			x.put(who, s, -1)
			for range r.IntN(30) {
				x.tick()
			}
		}
		for n := 0; n < 2000 && !x.quiet(); n++ {
			x.tick()
		}
		x.lost = 0
		for range 40 {
			x.tick()
		}
		x.wantAll(t, "much lost", s)
	}
}
