package link_test

import (
	"math/rand/v2"
	"reflect"
	"slices"
	"testing"

	"lodestar/api"
	"lodestar/link"
)

// wire: links of one shared network; routers i+1 at 10.0.0.(i+1).
type wire struct {
	c []link.Config
	l []*link.Link
}

func wired(t *testing.T, kind uint8, priorities ...uint8) *wire {
	w := &wire{}
	for i, p := range priorities {
		c := broadcast()
		c.Router, c.Addr, c.Priority, c.Hello, c.Dead = uint32(i+1), net+uint32(i+1), p, 2, 8
		if c.Type = kind; kind == link.NBMA {
			c.Poll = 5
			for j, q := range priorities {
				if j != i {
					c.Peers = append(c.Peers, peer(net+uint32(j+1), q))
				}
			}
		}
		w.c, w.l = append(w.c, c), append(w.l, made(t, c))
	}
	return w
}

// carry brings what link i sends to those it is sent to, and what they answer.
func (w *wire) carry(t *testing.T, i int, s []link.Send) {
	t.Helper()
	for _, x := range s {
		for j, l := range w.l {
			if j == i || l.State() == link.Down || x.To != api.AllRouters && x.To != w.c[j].Addr {
				continue
			}
			back, e := l.Hear(w.c[i].Addr, w.c[i].Router, x.Hello)
			if e != api.OK {
				t.Fatalf("P13.5: %d is not heard by %d: %d", i, j, e)
			}
			w.carry(t, j, back)
		}
	}
}

func (w *wire) tick(t *testing.T) {
	for i, l := range w.l {
		w.carry(t, i, l.Tick())
	}
}

// wantAgreed: all that are up name the same, and each knows what it is by that.
func (w *wire) wantAgreed(t *testing.T, what string) {
	t.Helper()
	var dr, bdr uint32
	may, asked := 0, 0
	for i, l := range w.l {
		if l.State() == link.Down {
			continue
		}
		if w.c[i].Priority > 0 {
			may++
		}
		d, b := l.Chiefs()
		if asked++; asked == 1 {
			dr, bdr = d, b
		}
		state := link.Other
		if b == w.c[i].Addr {
			state = link.Backup
		}
		if d == w.c[i].Addr {
			state = link.Chief
		}
		if d != dr || b != bdr || l.State() != state {
			t.Fatalf("P13: %s: link %d: state %d, chiefs %x, %x; the first %x, %x", what, i, l.State(), d, b, dr, bdr)
		}
	}
	if dr == 0 != (may == 0) || bdr == 0 != (may < 2) || dr == bdr && dr != 0 {
		t.Fatalf("P13: %s: %d may lead: chiefs %x, %x", what, may, dr, bdr)
	}
}

// run: ticks enough for all to come of what has come to be.
func (w *wire) run(t *testing.T) {
	for range 60 {
		w.tick(t)
	}
}

// late: may that one begin at any time, and be heard? On NBMA who leads tries one that may not lead when it is elected, and never again.
func (w *wire) late(i int) bool { return w.c[i].Type == link.Broadcast || w.c[i].Priority > 0 }

// TestTheyAgree: routers of a shared link that hear each other name the same in the end, whenever they begin, and when one goes and comes back.
func TestTheyAgree(t *testing.T) {
	r := rand.New(rand.NewPCG(13, 3))
	for _, kind := range []uint8{link.Broadcast, link.NBMA} {
		for range 400 {
			var p []uint8
			for range 2 + r.IntN(3) {
				p = append(p, uint8(r.IntN(3)))
			}
			w := wired(t, kind, p...)
			for i, l := range w.l {
				if !w.late(i) {
					w.carry(t, i, l.Up())
				}
			}
			for _, i := range r.Perm(len(p)) {
				for range r.IntN(30) {
					w.tick(t)
				}
				w.carry(t, i, w.l[i].Up())
			}
			w.run(t)
			w.wantAgreed(t, "all are up")
			gone := r.IntN(len(p))
			if !w.late(gone) {
				continue
			}
			w.l[gone].Down()
			w.run(t)
			w.wantAgreed(t, "one is down")
			w.carry(t, gone, w.l[gone].Up())
			w.run(t)
			w.wantAgreed(t, "it is back")
		}
	}
}

// TestNotMade: a link that New did not make, and none at all.
func TestNotMade(t *testing.T) {
	for _, l := range []*link.Link{nil, {}, new(link.Link)} {
		for range 2 {
			if s := l.Up(); len(s) > 0 {
				t.Errorf("R3: Up: %v", s)
			}
			if s := l.Tick(); len(s) > 0 {
				t.Errorf("R3: Tick: %v", s)
			}
			for _, h := range []api.HelloBody{{}, hello(broadcast(), 0, 0)} {
				if s, e := l.Hear(two, 2, h); len(s) > 0 || e != api.ErrArg {
					t.Errorf("R3: Hear: %v, %d", s, e)
				}
			}
			l.Down()
			l.Reach(7)
			l.Full(two, true)
			dr, bdr := l.Chiefs()
			if l.State() != 0 || dr != 0 || bdr != 0 || len(l.Neighbours()) > 0 {
				t.Errorf("R3: %d, %d, %d, %v", l.State(), dr, bdr, l.Neighbours())
			}
		}
	}
}

// fill writes over a list, and over its spare room.
func fill[T any](l []T, x T) {
	for i := range l[:cap(l)] {
		l[:cap(l)][i] = x
	}
}

// TestMemory: arguments are neither changed nor kept, answers are memory of their own.
func TestMemory(t *testing.T) {
	for what, c := range map[string]link.Config{"Multi": multi(), "NBMA": nbma(1), "NBMA without Priority": nbma(0)} {
		room := make([]link.Peer, 4, 9)
		copy(room, []link.Peer{peer(six, 1), peer(two, 1), peer(net+4, 2), peer(net+5, 0)})
		asked := slices.Clone(room[:9])
		c.Peers = room
		c.Hello, c.Dead, c.Poll = 1, 3, 2
		l := made(t, c)
		if !slices.Equal(room[:9], asked) {
			t.Fatalf("R5: %s: New changed Peers to %v", what, room[:9])
		}
		w := &words{c: c}
		w.c.Peers = asked[:4]
		fill(room, peer(99, 9))
		spoilt := func(s []link.Send) []link.Send {
			kept := slices.Clone(s)
			for i := range kept {
				kept[i].Hello.Neighbors = slices.Clone(kept[i].Hello.Neighbors)
			}
			for i := range s { // each list by itself: those behind it must stay
				fill(s[i].Hello.Neighbors, 77)
				wantSends(t, "R5: lists of one answer: "+what, s[i+1:], kept[i+1:])
			}
			fill(s, link.Send{To: 5})
			return kept
		}
		wantSends(t, what, spoilt(l.Up()), w.up())
		for i := range uint32(40) {
			names := append(make([]uint32, 0, 8), i, 1, 7)
			h := hello(c, 0, 0)
			h.Neighbors = names
			from := asked[i%3].Addr
			s, e := l.Hear(from, 2+i%3, h)
			if e != api.OK || !slices.Equal(names[:8], []uint32{i, 1, 7, 0, 0, 0, 0, 0}) {
				t.Fatalf("R5: %s: Hear: %d, %v", what, e, names[:8])
			}
			fill(names, 1)
			h.Neighbors = []uint32{1}
			want, _ := w.hear(from, 2+i%3, h)
			wantSends(t, what, spoilt(s), want)
			n := l.Neighbours()
			fill(n, link.Neighbour{Router: 88})
			wantSame(t, what, l, w)
			if i%2 == 0 {
				wantSends(t, what, spoilt(l.Tick()), w.tick())
				wantSame(t, what, l, w)
			}
		}
	}
}

// TestNilAndEmpty: a list that is nil, and one without elements.
func TestNilAndEmpty(t *testing.T) {
	for _, names := range [][]uint32{nil, {}} {
		l := begun(t, point(false))
		wantHear(t, l, two, 2, beside(hello(point(false), 0, 0), names...), api.OK)
		if stateOf(l, two) != link.Heard {
			t.Errorf("R4: %v: %v", names, l.Neighbours())
		}
	}
	c := multi()
	c.Peers = []link.Peer{}
	wantSends(t, "R4", begun(t, c).Tick(), begun(t, multi()).Tick())
}

// TestTwoLinks: two of one config know nothing of each other.
func TestTwoLinks(t *testing.T) {
	for what, c := range kinds() {
		a, b := begun(t, c), begun(t, c)
		want := b.Neighbours()
		a.Reach(7)
		wantHear(t, a, two, 2, hello(c, two, 0), api.OK)
		a.Full(two, true)
		pass(a, 45)
		a.Down()
		if dr, bdr := b.Chiefs(); dr != 0 || bdr != 0 || b.State() < link.Waiting || !slices.Equal(b.Neighbours(), want) {
			t.Errorf("R6: %s: %d, %v", what, b.State(), b.Neighbours())
		}
	}
}

// TestNumbers: of the constants.
func TestNumbers(t *testing.T) {
	for i, x := range []uint8{link.Broadcast, link.NBMA, link.Multi, link.Point, link.Virtual} {
		if int(x) != i {
			t.Errorf("type %d: %d", i, x)
		}
	}
	for i, x := range []uint8{link.Down, link.Quiet, link.Waiting, link.Pair, link.Other, link.Backup, link.Chief} {
		if int(x) != i {
			t.Errorf("state %d: %d", i, x)
		}
	}
	for i, x := range []uint8{link.Gone, link.Attempt, link.Heard, link.TwoWay} {
		if int(x) != i {
			t.Errorf("a neighbour's state %d: %d", i, x)
		}
	}
}

// TestCallsOfTheChapterAlone: nothing else is handed out.
func TestCallsOfTheChapterAlone(t *testing.T) {
	for _, x := range []struct {
		kind reflect.Type
		want []string
	}{
		{reflect.TypeFor[*link.Link](), []string{"Chiefs", "Down", "Full", "Hear", "Neighbours", "Reach", "State", "Tick", "Up"}},
		{reflect.TypeFor[*link.Config](), nil},
		{reflect.TypeFor[*link.Neighbour](), nil},
		{reflect.TypeFor[*link.Send](), nil},
	} {
		var got []string
		for i := range x.kind.NumMethod() {
			got = append(got, x.kind.Method(i).Name)
		}
		if !slices.Equal(got, x.want) {
			t.Errorf("calls of %v: %v; want %v", x.kind, got, x.want)
		}
	}
	if n := reflect.TypeFor[link.Link]().NumField(); n == 0 {
		t.Error("a link has nothing")
	}
	for i := range reflect.TypeFor[link.Link]().NumField() {
		if f := reflect.TypeFor[link.Link]().Field(i); f.IsExported() {
			t.Errorf("a link hands out its %s", f.Name)
		}
	}
}
