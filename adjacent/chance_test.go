package adjacent_test

import (
	"math"
	"math/rand/v2"
	"slices"
	"strconv"
	"strings"
	"testing"

	"lodestar/adjacent"
	"lodestar/api"
)

// pick: one of them, by chance.
func pick[T any](r *rand.Rand, l ...T) T { return l[r.IntN(len(l))] }

// someHead: of few keys, so that they meet often.
func someHead(r *rand.Rand) api.Head {
	return api.Head{
		Age: pick[uint16](r, 0, 0, 0, 1, 901, 3599, 3600, 0x8000, 0x8000|3600), Opts: uint8(r.IntN(2)), Type: uint8(1 + r.IntN(3)), ID: uint32(r.IntN(12)), Adv: uint32(r.IntN(2)),
		Seq: int32(r.IntN(3)), Sum: uint16(r.IntN(2)), Len: uint16(r.IntN(2)),
	}
}

// someOwn: each key once, in any order.
func someOwn(r *rand.Rand) []api.Head {
	var own []api.Head
	for range pick(r, 0, 1, 5, 20, 60) {
		if h := someHead(r); find(own, keyOf(h)) < 0 {
			own = append(own, h)
		}
	}
	return own
}

func someConfig(r *rand.Rand) adjacent.Config {
	c := adjacent.Config{
		Self: uint32(1 + r.IntN(3)), MTU: pick[uint16](r, 0, 1500), Opts: uint8(r.IntN(3)), Rxmt: uint16(1 + r.IntN(4)),
		Seq: pick[uint32](r, 100, 0, math.MaxUint32, math.MaxUint32-1), Types: pick[uint16](r, 0xFFFF, 14, 14, 6),
	}
	c.Other = c.Self%3 + 1
	return c
}

// fitting: a description that the words would take, but for its heads' types.
func fitting(r *rand.Rand, w *words) api.DDBody {
	p := api.DDBody{MTU: pick[uint16](r, 0, 1500), Opts: uint8(r.IntN(3)), Seq: w.number, Flags: pick[uint8](r, 0, 2)}
	switch {
	case w.state != adjacent.Start:
		p.Opts = w.opts()
		if !w.master {
			p.Flags |= 1
			p.Seq++
		}
	case w.c.Other > w.c.Self:
		p.Flags, p.Seq = 7, pick[uint32](r, 40, 7, math.MaxUint32)
		return p
	}
	for range pick(r, 0, 1, 5, 20) {
		p.Heads = append(p.Heads, someHead(r))
	}
	return p
}

// someDescription: one that fits, or the last one again, but for a fault now and then.
func someDescription(r *rand.Rand, w *words) api.DDBody {
	p := fitting(r, w)
	if n := len(w.took); n > 0 && r.IntN(4) == 0 {
		p = w.took[n-1]
		p.Heads = p.Heads[:r.IntN(len(p.Heads)+1)]
	}
	for r.IntN(12) == 0 {
		switch r.IntN(7) {
		case 0:
			p.MTU = 1501
		case 1:
			p.Opts ^= 1 << r.IntN(8)
		case 2:
			p.Flags ^= 1 << r.IntN(8)
		case 3:
			p.Seq += pick[uint32](r, 1, math.MaxUint32, 1000)
		case 4:
			p.Flags = 7
		case 5:
			p.Heads = append(slices.Clip(p.Heads), api.Head{Type: pick[uint8](r, 3, 16, 17, 19, 255)})
		case 6:
			p.Heads = nil
		}
	}
	return p
}

// someKeys: mostly of own.
func someKeys(r *rand.Rand, own []api.Head) []api.Key {
	var l []api.Key
	for range r.IntN(6) {
		if len(own) > 0 {
			l = append(l, keyOf(own[r.IntN(len(own))]))
		}
	}
	if r.IntN(5) == 0 {
		l = slices.Insert(l, r.IntN(len(l)+1), keyOf(someHead(r)))
	}
	return l
}

// someGot: mostly of what is wanted.
func someGot(r *rand.Rand, w *words) api.Head {
	if len(w.wanted) == 0 || r.IntN(5) == 0 {
		return someHead(r)
	}
	h := w.wanted[r.IntN(min(len(w.wanted), 16))]
	h.Seq += pick[int32](r, 0, 0, 0, 1, -1)
	return h
}

// step does one thing by chance to an adjacency and to the words, and holds them against each other; it tells what it did.
func step(t *testing.T, r *rand.Rand, a *adjacent.Adjacency, w *words, row string) string {
	t.Helper()
	own := someOwn(r)
	switch n := r.IntN(40); {
	case n == 0 && r.IntN(3) == 0:
		wantOut(t, "P14.4: "+row+"Anew", a.Anew(), w.anew()...)
		return "Anew"
	case n < 8:
		wantOut(t, "P14.5: "+row+"Tick", a.Tick(), w.tick()...)
		return "Tick"
	case n < 10:
		k := someKeys(r, own)
		answer, out, e := w.ask(k, own)
		wantAsked(t, "P14.3: "+row, a, k, own, e, answer, out...)
		return "Asked"
	case n < 28 && len(w.wanted) > 0:
		h := someGot(r, w)
		wantOut(t, "P14.4: "+row+"Got", a.Got(h), w.got(h)...)
		return "Got " + strconv.Itoa(int(h.ID))
	}
	p := someDescription(r, w)
	out, e := w.describe(p, own)
	wantDescribe(t, "P14.2: "+row, a, p, own, e, out...)
	return "Describe " + strconv.Itoa(int(p.Flags)) + "/" + strconv.Itoa(int(p.Seq))
}

// TestRowsOfCalls: adjacencies of all kinds, each through a row of calls by chance.
func TestRowsOfCalls(t *testing.T) {
	rows := 8000
	if testing.Short() {
		rows = 1000
	}
	r := rand.New(rand.NewPCG(14, 1))
	var seen [4]int
	next := 0 // how often a request followed another
	for range rows {
		c := someConfig(r)
		a, out, e := adjacent.New(c)
		w, want := newWords(c)
		if e != api.OK {
			t.Fatalf("P14.1: New(%v): %d", c, e)
		}
		wantOut(t, "P14.1", out, want...)
		var done []string
		for range 60 {
			request := w.request
			done = append(done, step(t, r, a, w, strings.Join(done, ", ")+": "))
			wantIs(t, strings.Join(done, ", "), a, w.state, w.master, w.opts(), w.wanted...)
			seen[w.state]++
			if w.state == adjacent.Loading && len(request) > 0 && request[0] != w.request[0] {
				next++
			}
		}
	}
	for state, n := range seen {
		if n < rows {
			t.Errorf("state %d was seen too seldom to tell: %d", state, n)
		}
	}
	if next < rows/100 {
		t.Errorf("requests followed each other too seldom to tell: %d", next)
	}
}
