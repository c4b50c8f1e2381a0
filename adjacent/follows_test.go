package adjacent_test

import (
	"math/rand/v2"
	"reflect"
	"slices"
	"testing"

	"lodestar/adjacent"
	"lodestar/api"
	"lodestar/order"
)

// side: one of two routers: its adjacency (nil ahead of its time), and what it has.
type side struct {
	c   adjacent.Config
	a   *adjacent.Adjacency
	own []api.Head
}

// flies: what is on its way to a side: an Out, or heads that are handed over.
type flies struct {
	to   int
	out  adjacent.Out
	over []api.Head
}

// pair: two of them, and what is on the way; lost, doubled, turned: of a hundred, how many are.
type pair struct {
	r                     *rand.Rand
	sides                 [2]*side
	way                   []flies
	lost, doubled, turned int
}

func (p *pair) send(from int, out []adjacent.Out) {
	for _, o := range out {
		p.way = append(p.way, flies{to: 1 - from, out: o})
	}
}

// deliver brings all that is on the way now.
func (p *pair) deliver(t *testing.T) {
	t.Helper()
	way := p.way
	p.way = nil
	for _, f := range way {
		switch n := p.r.IntN(100); {
		case n < p.lost:
			continue
		case n < p.lost+p.turned:
			p.way = append(p.way, f)
			continue
		case n < p.lost+p.turned+p.doubled:
			p.way = append(p.way, f)
		}
		if p.sides[f.to].a != nil {
			p.take(t, f)
		}
	}
}

func (p *pair) take(t *testing.T, f flies) {
	t.Helper()
	s := p.sides[f.to]
	switch {
	case f.over != nil:
		for _, h := range f.over {
			s.put(h)
			p.send(f.to, s.a.Got(h))
		}
	case f.out.Describe:
		out, e := s.a.Describe(f.out.DD, s.own)
		if e != api.OK && e != api.ErrSeq {
			t.Fatalf("P14.2: Describe: %d", e)
		}
		p.send(f.to, out)
	default:
		k, out, e := s.a.Asked(f.out.Keys, s.own)
		if e != api.OK && e != api.ErrState {
			t.Fatalf("P14.3: Asked of what was described: %d", e)
		}
		p.send(f.to, out)
		var over []api.Head
		for _, x := range k {
			over = append(over, s.own[find(s.own, x)])
		}
		if over != nil {
			p.way = append(p.way, flies{to: 1 - f.to, over: over})
		}
	}
}

// put: h is there from now on, unless what is there is as new.
func (s *side) put(h api.Head) {
	i := find(s.own, keyOf(h))
	if i < 0 {
		s.own = append(s.own, h)
	} else if order.Newer(h, s.own[i]) > 0 {
		s.own[i] = h
	}
}

func (p *pair) begin(t *testing.T, i int) {
	t.Helper()
	a, out, e := adjacent.New(p.sides[i].c)
	if e != api.OK {
		t.Fatalf("P14.1: %d", e)
	}
	p.sides[i].a = a
	p.send(i, out)
}

func (p *pair) tick(t *testing.T) {
	t.Helper()
	for i, s := range p.sides {
		if s.a != nil {
			p.send(i, s.a.Tick())
		}
	}
	for range 4 {
		p.deliver(t)
	}
}

func (p *pair) full() bool {
	for _, s := range p.sides {
		if s.a == nil || s.a.State() != adjacent.Full {
			return false
		}
	}
	return len(p.way) == 0
}

// wantAlike: both have the same, and one alone is master.
func (p *pair) wantAlike(t *testing.T, what string) {
	t.Helper()
	x, y := p.sides[0], p.sides[1]
	if x.a.Master() == y.a.Master() || x.a.Master() != (x.c.Self > y.c.Self) {
		t.Fatalf("P14.6: %s: %d and %d: masters %t and %t", what, x.c.Self, y.c.Self, x.a.Master(), y.a.Master())
	}
	if len(x.own) != len(y.own) || x.a.Opts() != y.c.Opts || y.a.Opts() != x.c.Opts {
		t.Fatalf("what follows: %s: %d and %d heads", what, len(x.own), len(y.own))
	}
	for _, h := range x.own {
		if i := find(y.own, keyOf(h)); i < 0 || order.Newer(h, y.own[i]) != 0 {
			t.Fatalf("what follows: %s: %v is not what the other has", what, h)
		}
	}
}

func somePair(r *rand.Rand) *pair {
	p := &pair{r: r}
	ids := r.Perm(4)
	for i := range p.sides {
		c := someConfig(r)
		c.Self, c.Other, c.Types, c.MTU = uint32(ids[i]+1), uint32(ids[1-i]+1), 0xFFFF, 0
		p.sides[i] = &side{c: c}
		for range pick(r, 0, 1, 10, 40, 120) {
			h := someHead(r)
			h.ID = uint32(r.IntN(60))
			if h.Age&^api.NoAge < 3600 {
				p.sides[i].put(h)
			}
		}
	}
	return p
}

// TestTheyBecomeAlike: whatever is lost on the way, as long as not all is.
func TestTheyBecomeAlike(t *testing.T) {
	r := rand.New(rand.NewPCG(14, 2))
	for range 400 {
		p := somePair(r)
		p.lost = pick(r, 0, 0, 10, 50, 80)
		p.begin(t, 0)
		for range r.IntN(20) {
			p.tick(t)
		}
		p.begin(t, 1)
		for n := 0; !p.full(); n++ {
			if n > 20000 {
				t.Fatalf("what follows: %d of a hundred are lost: states %d and %d", p.lost, p.sides[0].a.State(), p.sides[1].a.State())
			}
			p.tick(t)
		}
		p.wantAlike(t, "with losses")
	}
}

// TestTheyCalmDown: after doubles, packets out of turn, and sides that begin anew, when all is delivered again.
func TestTheyCalmDown(t *testing.T) {
	r := rand.New(rand.NewPCG(14, 3))
	for range 400 {
		p := somePair(r)
		p.lost, p.doubled, p.turned = r.IntN(30), r.IntN(30), r.IntN(30)
		p.begin(t, 0)
		p.begin(t, 1)
		for range 40 {
			p.tick(t)
			switch i := r.IntN(2); r.IntN(20) {
			case 0:
				p.send(i, p.sides[i].a.Anew())
			case 1:
				p.sides[i].c.Seq += uint32(r.IntN(3))
				p.begin(t, i)
			}
		}
		p.lost, p.doubled, p.turned = 0, 0, 0
		for n := 0; !p.full(); n++ {
			if n > 100 {
				t.Fatalf("what follows: all is delivered: states %d and %d", p.sides[0].a.State(), p.sides[1].a.State())
			}
			p.tick(t)
		}
		p.wantAlike(t, "after all that")
		for range 30 {
			p.tick(t)
			if !p.full() {
				t.Fatal("what follows: what is full does not stay so")
			}
		}
	}
}

// TestNotMade: an adjacency that New did not make, and none at all.
func TestNotMade(t *testing.T) {
	for _, a := range []*adjacent.Adjacency{nil, {}, new(adjacent.Adjacency)} {
		for range 2 {
			for _, p := range []api.DDBody{{}, dd(7, 40), dd(0, 0), {MTU: 65535}} {
				wantDescribe(t, "R3", a, p, heads(1, 1), api.ErrArg)
			}
			wantAsked(t, "R3", a, nil, nil, api.ErrArg, nil)
			wantAsked(t, "R3", a, keys(heads(1, 1)), heads(1, 1), api.ErrArg, nil)
			wantOut(t, "R3: Got", a.Got(head(1, 1)))
			wantOut(t, "R3: Anew", a.Anew())
			wantOut(t, "R3: Tick", a.Tick())
			wantIs(t, "R3", a, 0, false, 0)
		}
	}
}

// fill writes over a list, and over its spare room.
func fill[T any](l []T, x T) {
	for i := range l[:cap(l)] {
		l[:cap(l)][i] = x
	}
}

// roomy: the same list, with room behind it.
func roomy[T any](l []T) []T { return append(make([]T, 0, len(l)+3), l...) }

// spoilt: an answer as it was, when all of it is written over, list by list: those behind must stay.
func spoilt(t *testing.T, out []adjacent.Out) []adjacent.Out {
	t.Helper()
	kept := slices.Clone(out)
	for i := range kept {
		kept[i].DD.Heads, kept[i].Keys = slices.Clone(kept[i].DD.Heads), slices.Clone(kept[i].Keys)
	}
	for i := range out {
		fill(out[i].DD.Heads, head(99, 99))
		fill(out[i].Keys, api.Key{Type: 99})
		wantOut(t, "R5: lists of one answer", out[i+1:], kept[i+1:]...)
	}
	fill(out, adjacent.Out{Describe: true})
	return kept
}

// TestMemory: arguments are neither changed nor kept, answers are memory of their own.
func TestMemory(t *testing.T) {
	r := rand.New(rand.NewPCG(14, 4))
	for range 400 {
		c := someConfig(r)
		a, out, _ := adjacent.New(c)
		w, want := newWords(c)
		wantOut(t, "R5: New", spoilt(t, out), want...)
		for range 60 {
			own := someOwn(r)
			switch n := r.IntN(8); {
			case n < 3:
				p := someDescription(r, w)
				q, mine := p, roomy(own)
				q.Heads = roomy(p.Heads)
				out, e := a.Describe(q, mine)
				want, f := w.describe(p, own)
				if e != f || !sameDD(p, q) || !slices.Equal(mine, own) || !blank(q.Heads) || !blank(mine) {
					t.Fatalf("R5: Describe: %d; want %d; or its arguments are others", e, f)
				}
				fill(q.Heads, head(98, 98))
				fill(mine, head(98, 98))
				wantOut(t, "R5: Describe", spoilt(t, out), want...)
			case n < 4:
				k := someKeys(r, own)
				l, mine := roomy(k), roomy(own)
				answer, out, e := a.Asked(l, mine)
				want, sent, f := w.ask(k, own)
				if e != f || !slices.Equal(l, k) || !slices.Equal(mine, own) || !blank(l) || !blank(mine) {
					t.Fatalf("R5: Asked: %d; want %d; or its arguments are others", e, f)
				}
				fill(l, api.Key{Type: 98})
				fill(mine, head(98, 98))
				if !slices.Equal(answer, want) {
					t.Fatalf("R5: Asked: %v; want %v", answer, want)
				}
				fill(answer, api.Key{Type: 97})
				wantOut(t, "R5: Asked", spoilt(t, out), sent...)
			case n < 6 && len(w.wanted) > 0:
				h := someGot(r, w)
				wantOut(t, "R5: Got", spoilt(t, a.Got(h)), w.got(h)...)
			default:
				wantOut(t, "R5: Tick", spoilt(t, a.Tick()), w.tick()...)
			}
			fill(a.Wants(), head(97, 97))
			wantIs(t, "R5", a, w.state, w.master, w.opts(), w.wanted...)
		}
	}
}

// blank: is the room behind a list as it was made?
func blank[T comparable](l []T) bool {
	var zero T
	for _, x := range l[len(l):cap(l)] {
		if x != zero {
			return false
		}
	}
	return true
}

// TestNilAndEmpty: a list that is nil, and one without elements.
func TestNilAndEmpty(t *testing.T) {
	a := made(t, low())
	p := dd(7, 40)
	p.Heads = []api.Head{}
	wantDescribe(t, "R4", a, p, []api.Head{}, api.OK, told(0, 40))
	wantAsked(t, "R4", a, []api.Key{}, []api.Head{}, api.OK, nil)
	p = dd(1, 41)
	p.Heads = []api.Head{}
	wantDescribe(t, "R4", a, p, []api.Head{}, api.OK, told(0, 41))
	wantIs(t, "R4", a, adjacent.Full, false, 2)
}

// TestTwoAdjacencies: two of one config know nothing of each other.
func TestTwoAdjacencies(t *testing.T) {
	a, b := made(t, low()), made(t, low())
	a.Describe(dd(7, 40), heads(1, 20))
	a.Describe(dd(3, 41, heads(50, 3)...), nil)
	a.Tick()
	wantIs(t, "R6", b, adjacent.Start, false, 0)
	wantTicks(t, "R6", b, 5, told(7, 100))
	wantDescribe(t, "R6", b, dd(7, 60), nil, api.OK, told(0, 60))
	wantIs(t, "R6", b, adjacent.Exchange, false, 2)
	wantIs(t, "R6", a, adjacent.Exchange, false, 2, heads(50, 3)...)
}

// TestCallsOfTheChapterAlone: nothing else is handed out.
func TestCallsOfTheChapterAlone(t *testing.T) {
	for _, x := range []struct {
		kind reflect.Type
		want []string
	}{
		{reflect.TypeFor[*adjacent.Adjacency](), []string{"Anew", "Asked", "Describe", "Got", "Master", "Opts", "State", "Tick", "Wants"}},
		{reflect.TypeFor[*adjacent.Config](), nil},
		{reflect.TypeFor[*adjacent.Out](), nil},
	} {
		var got []string
		for i := range x.kind.NumMethod() {
			got = append(got, x.kind.Method(i).Name)
		}
		if !slices.Equal(got, x.want) {
			t.Errorf("calls of %v: %v; want %v", x.kind, got, x.want)
		}
	}
	for i := range reflect.TypeFor[adjacent.Adjacency]().NumField() {
		if f := reflect.TypeFor[adjacent.Adjacency]().Field(i); f.IsExported() {
			t.Errorf("an adjacency hands out its %s", f.Name)
		}
	}
}
