package link_test

import (
	"math"
	"strconv"
	"testing"

	"lodestar/api"
	"lodestar/link"
)

// TestRoundsOfNBMA: who is greeted hangs on both Priorities, and on who leads.
func TestRoundsOfNBMA(t *testing.T) {
	// Three peers, of which two are heard: one of Priority 0, one of Priority 1.
	set := []link.Peer{peer(six, 0), peer(two, 1), peer(net+4, 1), peer(net+5, 0)}
	c := nbma(1, set...)
	l := begun(t, c)
	wantHear(t, l, six, 6, prior(hello(c, 0, 0), 0), api.OK)
	wantHear(t, l, two, 2, hello(c, 0, 0), api.OK)
	wantState(t, l, link.Waiting, 0, 0)
	wantTo(t, "P13.3: Waiting", pass(l, 10), []uint32{6, 2}, two, net+4)

	wantHear(t, l, two, 2, hello(c, two, net+9), api.OK)
	wantState(t, l, link.Waiting, 0, 0)
	wantHear(t, l, two, 2, hello(c, two, 0), api.OK)
	wantState(t, l, link.Backup, two, self)
	wantTo(t, "P13.3: Backup", pass(l, 10), []uint32{6, 2}, six, two, net+4, net+5)

	wantHear(t, l, two, 2, prior(hello(c, 0, 0), 0), api.OK)
	wantState(t, l, link.Chief, self, 0)
	wantTo(t, "P13.3: Chief", pass(l, 10), []uint32{6, 2}, six, two, net+4, net+5)

	// Another one leads: the Priority that was heard counts, not the one that was told.
	wantHear(t, l, six, 6, prior(hello(c, six, 0), 9), api.OK)
	wantHear(t, l, two, 2, prior(hello(c, six, two), 5), api.OK)
	wantState(t, l, link.Other, six, two)
	wantHear(t, l, net+4, 4, prior(hello(c, six, two), 0), api.OK)
	wantTo(t, "P13.3: Other", pass(l, 10), []uint32{6, 2, 4}, six, two)
}

// TestRoundsOfNBMAWithoutPriority: to DR and BDR alone.
func TestRoundsOfNBMAWithoutPriority(t *testing.T) {
	c := nbma(0, peer(six, 1), peer(two, 1), peer(net+4, 1))
	l := begun(t, c)
	wantTo(t, "P13.3: nobody is designated", pass(l, 10), nil)
	wantHear(t, l, net+4, 4, hello(c, 0, 0), api.OK)
	wantState(t, l, link.Other, net+4, net+4)
	wantTo(t, "P13.3: one is both", pass(l, 10), []uint32{4}, net+4)
	wantHear(t, l, six, 6, hello(c, six, 0), api.OK)
	wantHear(t, l, net+4, 4, hello(c, six, net+4), api.OK)
	wantHear(t, l, two, 2, hello(c, six, net+4), api.OK)
	wantState(t, l, link.Other, six, net+4)
	wantTo(t, "P13.3: in the neighbours' order", pass(l, 10), []uint32{6, 2, 4}, six, net+4)
}

// TestPolls: of those that are Gone; of NBMA just where both Priorities are above 0.
func TestPolls(t *testing.T) {
	set := []link.Peer{peer(six, 0), peer(two, 1), peer(net+4, 2)}
	c := multi(set...)
	c.Hello, c.Dead, c.Poll = 4, 3, 6
	l := begun(t, c)
	for i := 1; i <= 24; i++ {
		s := l.Tick()
		if i%6 == 0 {
			wantTo(t, "P13.3: a poll of Multi", s, nil, six, two, net+4)
		} else {
			wantTo(t, "P13.4: no poll", s, nil)
		}
	}
	for own := range uint8(3) {
		c := nbma(own, set...)
		c.Hello, c.Dead, c.Poll = 4, 3, 6
		l := begun(t, c)
		pass(l, 5)
		if own == 0 {
			wantState(t, l, link.Other, 0, 0)
			wantTo(t, "P13.3: a poll of NBMA", l.Tick(), nil)
		} else {
			// It leads since the third tick: there and then all are tried once more.
			wantState(t, l, link.Chief, self, 0)
			wantTo(t, "P13.3: a poll of NBMA", l.Tick(), nil, two, net+4)
		}
	}
}

// TestRoundAheadOfPoll: both at one tick; one that is lost then is polled, not greeted.
func TestRoundAheadOfPoll(t *testing.T) {
	c := multi(peer(six, 0), peer(two, 1), peer(net+4, 0))
	c.Hello, c.Dead, c.Poll = 2, 6, 3
	l := begun(t, c)
	pass(l, 2)
	wantHear(t, l, two, 2, hello(c, 0, 0), api.OK)
	wantTo(t, "P13.4: the third", l.Tick(), []uint32{2})
	pass(l, 2)
	wantTo(t, "P13.4: the sixth", l.Tick(), []uint32{2}, two, six, net+4)
	wantTo(t, "P13.4: the seventh", l.Tick(), nil)
	wantTo(t, "P13.4: the eighth", l.Tick(), nil)
	wantTo(t, "P13.4: the ninth", l.Tick(), nil, six, two, net+4)
}

// TestLost: Dead ticks behind what was heard last, not sooner; then all that was heard is gone.
func TestLost(t *testing.T) {
	for what, c := range kinds() {
		for _, dead := range []uint32{1, 2, 3, 9, 300} {
			c.Dead, c.Priority = dead, 0
			l := begun(t, c)
			l.Reach(9)
			for _, h := range []api.HelloBody{hello(c, 0, 0), deaf(hello(c, 0, 0))} {
				wantHear(t, l, two, 2, prior(h, 5), api.OK)
				pass(l, int(dead)-1)
				wantHear(t, l, two, 2, prior(h, 5), api.OK)
				for left := dead; left > 0; left-- {
					n := l.Neighbours()
					if len(n) != 1 || n[0].Left != left || n[0].Router != 2 || n[0].State < link.Heard {
						t.Fatalf("P13.4: %s: %d ticks left: %v", what, left, n)
					}
					l.Tick()
				}
				if peers(c) {
					wantNeighbours(t, l, link.Neighbour{Addr: two, Priority: 1})
				} else {
					wantNeighbours(t, l)
				}
				if shared(c) {
					wantState(t, l, link.Other, 0, 0)
				}
			}
		}
	}
}

// TestTried: one in Attempt is Gone Dead ticks later, and no election comes of it.
func TestTried(t *testing.T) {
	for _, c := range []link.Config{multi(peer(two, 1)), nbma(1, peer(two, 1))} {
		c.Dead = 5
		l := begun(t, c)
		for left := uint32(5); left > 0; left-- {
			wantNeighbours(t, l, link.Neighbour{Addr: two, Priority: 1, State: link.Attempt, Left: left})
			l.Tick()
		}
		if c.Type == link.Multi {
			wantNeighbours(t, l, link.Neighbour{Addr: two, Priority: 1})
			wantState(t, l, link.Pair, 0, 0)
			continue
		}
		// At that tick it elects, leads, and tries it again: once.
		wantState(t, l, link.Chief, self, 0)
		wantNeighbours(t, l, link.Neighbour{Addr: two, Priority: 1, State: link.Attempt, Left: 5})
		pass(l, 5)
		wantNeighbours(t, l, link.Neighbour{Addr: two, Priority: 1})
		pass(l, 50)
		wantNeighbours(t, l, link.Neighbour{Addr: two, Priority: 1})
	}
}

// TestWaiting: it elects at the tick that Dead names, with all that are TwoWay then.
func TestWaiting(t *testing.T) {
	for _, dead := range []uint32{1, 2, 7, 100} {
		c := broadcast()
		c.Dead = dead
		l := begun(t, c)
		pass(l, int(dead)-1)
		wantHear(t, l, two, 2, hello(c, 0, 0), api.OK)
		wantHear(t, l, net+3, 3, deaf(hello(c, 0, 0)), api.OK)
		wantHear(t, l, net+4, 4, prior(hello(c, 0, 0), 0), api.OK)
		wantState(t, l, link.Waiting, 0, 0)
		if n := l.Neighbours(); n[0].Wanted || n[1].Wanted || n[2].Wanted {
			t.Fatalf("P13.7: wanted by one that waits: %v", n)
		}
		l.Tick()
		if dead > 1 {
			wantState(t, l, link.Other, two, two)
		} else {
			// With Dead 1 all are lost at that tick, ahead of the election.
			wantState(t, l, link.Chief, self, 0)
		}
	}
}

// TestLostAsItElects: one that is lost at that tick has no voice any more.
func TestLostAsItElects(t *testing.T) {
	c := nbma(1, peer(two, 1), peer(six, 1))
	c.Dead = 4
	l := begun(t, c)
	wantHear(t, l, two, 2, hello(c, 0, 0), api.OK)
	pass(l, 2)
	wantHear(t, l, six, 6, hello(c, 0, 0), api.OK)
	pass(l, 2)
	wantState(t, l, link.Other, six, six)
	if stateOf(l, two) != link.Gone {
		t.Errorf("P13.4: lost: %v", l.Neighbours())
	}
}

// TestLostVoices: a link that has elected elects again when one that was TwoWay is lost; not for others.
func TestLostVoices(t *testing.T) {
	c := broadcast()
	c.Dead = 10
	l := begun(t, c)
	wantHear(t, l, two, 2, hello(c, two, net+3), api.OK)
	wantHear(t, l, net+3, 3, hello(c, two, net+3), api.OK)
	wantState(t, l, link.Other, two, net+3)
	pass(l, 4)
	wantHear(t, l, net+3, 3, hello(c, two, net+3), api.OK)
	pass(l, 5)
	wantState(t, l, link.Other, two, net+3)
	s := l.Tick()
	wantState(t, l, link.Other, net+3, net+3)
	wantTo(t, "P13.4: behind the election", s, []uint32{3}, all)
	if s[0].Hello.DR != net+3 || s[0].Hello.BDR != net+3 {
		t.Errorf("P13.4: the Hello names %x, %x", s[0].Hello.DR, s[0].Hello.BDR)
	}
	pass(l, 4)
	wantState(t, l, link.Chief, self, 0)

	// One in Heard is lost: nobody is elected, so the peer that is Gone is not tried.
	n := nbma(1, peer(two, 1), peer(six, 0))
	n.Dead = 4
	l = begun(t, n)
	pass(l, 4)
	wantState(t, l, link.Chief, self, 0)
	pass(l, 4)
	wantHear(t, l, two, 2, deaf(hello(n, 0, 0)), api.OK)
	pass(l, 4)
	wantNeighbours(t, l, link.Neighbour{Addr: two, Priority: 1}, link.Neighbour{Addr: six})
	// And a TwoWay one: then all that are Gone are tried, itself, too.
	wantHear(t, l, two, 2, hello(n, 0, 0), api.OK)
	pass(l, 4)
	tried := link.Neighbour{Addr: two, Priority: 1, State: link.Attempt, Left: 4}
	other := link.Neighbour{Addr: six, State: link.Attempt, Left: 4}
	wantNeighbours(t, l, tried, other)
}

// TestPairsElectNobody: links that are not shared have no chiefs, whatever is heard, lost and named.
func TestPairsElectNobody(t *testing.T) {
	for _, c := range []link.Config{multi(peer(two, 1)), point(false), virtual(false)} {
		c.Priority, c.Dead = 5, 3
		l := begun(t, c)
		l.Reach(9)
		for _, h := range []api.HelloBody{hello(c, two, 0), hello(c, 0, two), hello(c, self, two), deaf(hello(c, two, two))} {
			wantHear(t, l, two, 2, h, api.OK)
			wantState(t, l, link.Pair, 0, 0)
			pass(l, 2)
			wantState(t, l, link.Pair, 0, 0)
			for _, s := range pass(l, 8) {
				if s.Hello.DR != 0 || s.Hello.BDR != 0 {
					t.Errorf("P13.3: a Hello of a Pair names %v", s.Hello)
				}
			}
			wantState(t, l, link.Pair, 0, 0)
		}
	}
}

// TestEachHelloTicks: rounds and polls by their times alone, from Up on, whatever is heard.
func TestEachHelloTicks(t *testing.T) {
	for _, every := range []uint16{1, 2, 3, 10, math.MaxUint16} {
		c := broadcast()
		c.Hello = every
		l := begun(t, c)
		for i := 1; i <= 3*int(every); i++ {
			if i%7 == 0 && every < 100 {
				wantHear(t, l, two, 2, hello(c, 0, 0), api.OK)
			}
			if s := l.Tick(); len(s) > 0 != (i%int(every) == 0) {
				t.Fatalf("P13.4: Hello %d: %d sent at the tick %d", every, len(s), i)
			}
		}
	}
	c := multi(peer(two, 0), peer(six, 0))
	c.Hello, c.Poll, c.Dead = 3, math.MaxUint16, 1
	l := begun(t, c)
	for i := 1; i <= 2*math.MaxUint16; i++ {
		if s := l.Tick(); len(s) != 0 && i%math.MaxUint16 != 0 || len(s) != 2 && i%math.MaxUint16 == 0 {
			t.Fatalf("P13.4: the longest Poll: %d sent at the tick %s", len(s), strconv.Itoa(i))
		}
	}
}

// TestLongestDead: nothing wraps round.
func TestLongestDead(t *testing.T) {
	for what, c := range kinds() {
		c.Dead = math.MaxUint32
		l := begun(t, c)
		wantHear(t, l, two, 2, hello(c, 0, 0), api.OK)
		pass(l, 1000)
		n := l.Neighbours()
		if len(n) != 1 || n[0].Left != math.MaxUint32-1000 || n[0].State != link.TwoWay {
			t.Errorf("P13.4: %s: %v", what, n)
		}
		if shared(c) {
			wantState(t, l, link.Waiting, 0, 0)
		}
	}
}
