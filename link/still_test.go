package link_test

import (
	"slices"
	"testing"

	"lodestar/api"
	"lodestar/link"
)

// lines: links of Demand, or not, that are up; a Virtual one reaches 9.
func lines(t *testing.T, demand bool) map[string]*link.Link {
	all := map[string]*link.Link{}
	for what, c := range map[string]link.Config{"Point": point(demand), "Virtual": virtual(demand)} {
		l := made(t, c)
		l.Reach(9)
		l.Up()
		all[what] = l
	}
	return all
}

// on: a Hello for these lines, of one that can be still.
func on(what string) api.HelloBody {
	c := point(true)
	if what == "Virtual" {
		c = virtual(true)
	}
	return opts(hello(c, 0, 0), api.OptDC)
}

func wantStill(t *testing.T, why string, l *link.Link, want bool) {
	t.Helper()
	left := l.Neighbours()[0].Left
	var s []link.Send
	for range 10 { // a round is due within them
		s = append(s, l.Tick()...)
	}
	n := l.Neighbours()
	if want && (len(n) != 1 || n[0].Left != left || len(s) > 0) || !want && (len(n) != 1 || n[0].Left != left-10 || len(s) != 1) {
		t.Fatalf("P13.6: %s: %d left, then %v, sent %v; want still: %v", why, left, n, s, want)
	}
}

func TestStill(t *testing.T) {
	for what, l := range lines(t, true) {
		wantHear(t, l, two, 2, on(what), api.OK)
		wantStill(t, what+": nothing said", l, false)
		l.Full(two+1, true)
		wantStill(t, what+": said of another address", l, false)
		l.Full(two, false)
		wantStill(t, what+": not full", l, false)
		wantHear(t, l, two, 2, on(what), api.OK)
		l.Tick()
		l.Full(two, true)
		for range 30 {
			if s := pass(l, 10); len(s) > 0 {
				t.Fatalf("P13.6: %s: sent %v", what, s)
			}
		}
		wantNeighbours(t, l, link.Neighbour{Router: 2, Addr: two, State: link.TwoWay, Priority: 1, Opts: api.OptE | api.OptDC, Left: 39, Wanted: true})
		wantHear(t, l, two, 2, on(what), api.OK)
		wantStill(t, what+": heard again", l, true)
		wantHear(t, l, six, 2, on(what), api.OK)
		wantStill(t, what+": from another address", l, true)
		l.Full(two, false)
		wantStill(t, what+": said of the old address", l, true)
		l.Full(six, false)
		wantStill(t, what+": full no more", l, false)
		pass(l, 29)
		if len(l.Neighbours()) != 1 {
			t.Fatalf("P13.4: %s: lost too soon", what)
		}
		l.Tick()
		wantNeighbours(t, l)
	}
}

// TestStillAsksOpts: the options that were heard last count, now.
func TestStillAsksOpts(t *testing.T) {
	for what, l := range lines(t, true) {
		wantHear(t, l, two, 2, opts(on(what), 0x40), api.OK)
		l.Full(two, true)
		wantStill(t, what+": without OptDC", l, false)
		wantHear(t, l, two, 2, opts(on(what), 0x60), api.OK)
		wantStill(t, what+": with OptDC", l, true)
		wantHear(t, l, two, 2, opts(on(what), 0), api.OK)
		wantStill(t, what+": without it again", l, false)
	}
}

// TestStillSince: what was said does not outlive that it is TwoWay, nor its Router.
func TestStillSince(t *testing.T) {
	for what, l := range lines(t, true) {
		wantHear(t, l, two, 2, deaf(on(what)), api.OK)
		l.Full(two, true)
		wantStill(t, what+": said while it was Heard", l, false)
		wantHear(t, l, two, 2, on(what), api.OK)
		wantStill(t, what+": TwoWay later", l, false)
		l.Full(two, true)
		wantStill(t, what+": said again", l, true)
		wantHear(t, l, two, 2, deaf(on(what)), api.OK)
		wantStill(t, what+": Heard again", l, false)
		wantHear(t, l, two, 2, on(what), api.OK)
		wantStill(t, what+": TwoWay, not since", l, false)

		l.Full(two, true)
		l.Down()
		l.Up()
		wantHear(t, l, two, 2, on(what), api.OK)
		wantStill(t, what+": said ahead of Down", l, false)

		pass(l, 40)
		wantNeighbours(t, l)
		l.Full(two, true)
		wantHear(t, l, two, 2, on(what), api.OK)
		wantStill(t, what+": said while it was lost", l, false)
	}
	l := lines(t, true)["Point"]
	wantHear(t, l, two, 2, on("Point"), api.OK)
	l.Full(two, true)
	wantStill(t, "router 2", l, true)
	wantHear(t, l, two, 3, on("Point"), api.OK)
	wantStill(t, "router 3 took its place", l, false)
	wantHear(t, l, two, 2, on("Point"), api.OK)
	wantStill(t, "router 2 came back", l, false)
}

// TestNeverStill: links that are not of Demand.
func TestNeverStill(t *testing.T) {
	for what, l := range lines(t, false) {
		wantHear(t, l, two, 2, on(what), api.OK)
		l.Full(two, true)
		wantStill(t, what+" without Demand", l, false)
	}
	for what, c := range kinds() {
		l := begun(t, c)
		wantHear(t, l, two, 2, opts(hello(c, 0, 0), api.OptDC), api.OK)
		l.Full(two, true)
		pass(l, 39)
		if n := l.Neighbours(); len(n) != 1 || n[0].Left != 1 {
			t.Fatalf("P13.6: %s: %v", what, n)
		}
		l.Tick()
		if n := l.Neighbours(); len(n) > 0 && n[0].State > link.Attempt {
			t.Errorf("P13.6: %s: not lost: %v", what, n)
		}
	}
}

// TestReach: from now on; whatever the link's state is.
func TestReach(t *testing.T) {
	l := made(t, virtual(false))
	l.Reach(7)
	wantTo(t, "P13.6: said while it was Down", l.Up(), nil, 7)
	wantTo(t, "P13.6", pass(l, 10), nil, 7)
	l.Reach(8)
	wantTo(t, "P13.6: said anew", pass(l, 10), nil, 8)
	l.Reach(0)
	wantTo(t, "P13.6: nowhere", pass(l, 10), nil)
	wantHear(t, l, two, 2, hello(virtual(false), 0, 0), api.OK)
	l.Reach(9)
	l.Down()
	wantTo(t, "P13.2: Down keeps it", l.Up(), nil, 9)

	for what, c := range kinds() {
		if c.Type == link.Virtual {
			continue
		}
		l, other := made(t, c), made(t, c)
		l.Reach(77)
		wantSends(t, "P13.6: "+what, l.Up(), other.Up())
		for range 120 {
			l.Reach(78)
			wantSends(t, "P13.6: "+what, l.Tick(), other.Tick())
		}
	}
}

// TestWanted: by the link's state, and who the neighbour is.
func TestWanted(t *testing.T) {
	c := broadcast()
	l := begun(t, c)
	wanted := func() []uint32 {
		var w []uint32
		for _, n := range l.Neighbours() {
			if n.Wanted {
				w = append(w, n.Addr)
			}
		}
		return w
	}
	want := func(what string, addrs ...uint32) {
		t.Helper()
		if got := wanted(); !slices.Equal(got, addrs) {
			t.Fatalf("P13.7: %s: wanted %x; want %x", what, got, addrs)
		}
	}
	wantHear(t, l, net+4, 4, deaf(hello(c, 0, 0)), api.OK)
	wantHear(t, l, net+5, 5, prior(hello(c, 0, 0), 0), api.OK)
	wantHear(t, l, two, 2, hello(c, 0, 0), api.OK)
	want("Waiting")
	wantHear(t, l, six, 6, hello(c, 0, six), api.OK)
	wantState(t, l, link.Other, six, six)
	want("Other, one is both", six)
	wantHear(t, l, six, 6, hello(c, six, 0), api.OK)
	wantState(t, l, link.Other, six, two)
	want("Other", two, six)
	wantHear(t, l, two, 2, prior(hello(c, six, 0), 0), api.OK)
	wantState(t, l, link.Backup, six, self)
	want("Backup", two, net+5, six)
	wantHear(t, l, six, 6, deaf(hello(c, six, 0)), api.OK)
	wantState(t, l, link.Chief, self, 0)
	want("Chief", two, net+5)

	for _, c := range []link.Config{point(false), virtual(false), multi(peer(two, 0))} {
		l = begun(t, c)
		wantHear(t, l, two, 2, deaf(hello(c, 0, 0)), api.OK)
		want("Pair, Heard")
		wantHear(t, l, two, 2, hello(c, 0, 0), api.OK)
		want("Pair, TwoWay", two)
	}
}
