package adjacent_test

import (
	"slices"
	"testing"

	"lodestar/adjacent"
	"lodestar/api"
)

// TestWanted: which heads are: of which own has no copy, or an older one, by Seq, Sum and age.
func TestWanted(t *testing.T) {
	base := api.Head{Age: 100, Type: 1, ID: 5, Adv: 6, Seq: 10, Sum: 7}
	with := func(change func(h *api.Head)) []api.Head {
		h := base
		change(&h)
		return []api.Head{head(1, 1), h, head(9, 1)}
	}
	for _, x := range []struct {
		what string
		own  []api.Head
		is   bool
	}{
		{"none at all", nil, true},
		{"none of that key", heads(1, 20), true},
		{"another Type", with(func(h *api.Head) { h.Type = 2 }), true},
		{"another ID", with(func(h *api.Head) { h.ID = 4 }), true},
		{"another Adv", with(func(h *api.Head) { h.Adv = 5 }), true},
		{"a lesser Seq", with(func(h *api.Head) { h.Seq = 9 }), true},
		{"a Seq below 0", with(func(h *api.Head) { h.Seq = -10 }), true},
		{"a lesser Sum", with(func(h *api.Head) { h.Sum = 6 }), true},
		{"much older", with(func(h *api.Head) { h.Age = 1001 }), true},
		{"the same", with(func(h *api.Head) {}), false},
		{"the same, but for Opts and Len", with(func(h *api.Head) { h.Opts, h.Len = 9, 99 }), false},
		{"little older", with(func(h *api.Head) { h.Age = 1000 }), false},
		{"Old", with(func(h *api.Head) { h.Age = 3600 }), false},
		{"a greater Seq", with(func(h *api.Head) { h.Seq = 11 }), false},
		{"a greater Sum", with(func(h *api.Head) { h.Sum = 8 }), false},
	} {
		var want []api.Head
		if x.is {
			want = []api.Head{base}
		}
		a := led(t)
		a.Describe(dd(3, 41, base), x.own)
		wantIs(t, "P14.2: own: "+x.what, a, adjacent.Exchange, false, 2, want...)
		b := leading(t)
		b.Describe(dd(2, 101, base), x.own)
		wantIs(t, "P14.2: own, master: "+x.what, b, adjacent.Exchange, true, 2, want...)
	}
	old := base
	old.Age = 3600
	a := led(t)
	a.Describe(dd(3, 41, old), with(func(h *api.Head) {}))
	wantIs(t, "P14.2: one that is Old", a, adjacent.Exchange, false, 2, old)
}

// TestOwnIsAskedEachTime: own is what there is now; what was wanted before stays so.
func TestOwnIsAskedEachTime(t *testing.T) {
	a := led(t, heads(1, 3)...)
	a.Describe(dd(3, 41, heads(1, 3)...), nil)
	wantIs(t, "P14.2", a, adjacent.Exchange, false, 2, heads(1, 3)...)
	a.Describe(dd(3, 42, heads(4, 2)...), heads(1, 4))
	wantIs(t, "P14.2", a, adjacent.Exchange, false, 2, head(1, 1), head(2, 1), head(3, 1), head(5, 1))
}

// TestWantedTwice: a key that is wanted already: the newer head, at the place of the first.
func TestWantedTwice(t *testing.T) {
	near := func(h api.Head) api.Head { // as new as h, but another
		h.Age, h.Opts, h.Len = h.Age+900, 77, 99
		return h
	}
	first := []api.Head{head(8, 5), head(2, 5), head(5, 5)}
	a := led(t)
	a.Describe(dd(3, 41, first...), nil)
	a.Describe(dd(3, 42, head(5, 4), head(9, 1), head(8, 6), near(head(2, 5))), nil)
	wantIs(t, "P14.2: twice", a, adjacent.Exchange, false, 2, head(8, 6), head(2, 5), head(5, 5), head(9, 1))
	a = led(t)
	wantDescribe(t, "P14.2: twice in one", a, dd(1, 41, head(3, 1), head(4, 9), head(3, 2), head(4, 8), head(3, 1)), nil, api.OK,
		told(0, 41), asks(head(3, 2), head(4, 9)))
	wantIs(t, "P14.2: twice in one", a, adjacent.Loading, false, 2, head(3, 2), head(4, 9))
	a = led(t)
	a.Describe(dd(3, 41, head(3, 4), head(7, 1)), nil)
	a.Describe(dd(3, 42, head(3, 5)), []api.Head{head(3, 5)})
	wantIs(t, "P14.2: own has it now", a, adjacent.Exchange, false, 2, head(3, 4), head(7, 1))
	a.Got(head(3, 5))
	a.Describe(dd(3, 43, head(3, 6)), nil)
	wantIs(t, "P14.2: wanted no more, and again", a, adjacent.Exchange, false, 2, head(7, 1), head(3, 6))
}

// TestRequests: of the first PerPacket keys, edge by edge; the next when none of them is wanted any more.
func TestRequests(t *testing.T) {
	for _, n := range []int{1, 2, 15, 16, 17, 31, 32, 33, 50} {
		all := heads(100, n)
		slices.Reverse(all)
		for what, reverse := range map[string]bool{"in order": false, "turned round": true} {
			a := loading(t, all...)
			for from := 0; from < n; from += 16 {
				part := slices.Clone(all[from:min(from+16, n)])
				if reverse {
					slices.Reverse(part)
				}
				for i, h := range part {
					out := a.Got(h)
					if i < len(part)-1 || from+16 >= n {
						wantOut(t, "P14.4: "+what, out)
						continue
					}
					wantOut(t, "P14.4: the next, "+what, out, asks(all[from+16:min(from+32, n)]...))
				}
			}
			wantIs(t, "P14.4: "+what, a, adjacent.Full, false, 2)
		}
	}
}

// TestGotBeforeAsked: what was not in the last request may come, too.
func TestGotBeforeAsked(t *testing.T) {
	all := heads(1, 40)
	a := loading(t, all...)
	for _, h := range all[16:38] {
		wantOut(t, "P14.4: not of the last request", a.Got(h))
	}
	for _, h := range all[:15] {
		wantOut(t, "P14.4: of the last request", a.Got(h))
	}
	wantIs(t, "P14.4", a, adjacent.Loading, false, 2, all[15], all[38], all[39])
	wantOut(t, "P14.4: none of the last request", a.Got(all[15]), asks(all[38:]...))
	wantOut(t, "P14.4", a.Got(all[39]))
	wantOut(t, "P14.4", a.Got(all[38]))
	wantIs(t, "P14.4", a, adjacent.Full, false, 2)
}

// TestGot: which head makes it wanted no more, in Exchange and in Loading.
func TestGot(t *testing.T) {
	base := api.Head{Age: 1000, Type: 1, ID: 5, Adv: 6, Seq: 10, Sum: 7}
	for _, x := range []struct {
		what   string
		change func(h *api.Head)
		goes   bool
	}{
		{"the same", func(h *api.Head) {}, true},
		{"the same, but for Opts and Len", func(h *api.Head) { h.Opts, h.Len = 9, 99 }, true},
		{"little older", func(h *api.Head) { h.Age = 1900 }, true},
		{"a greater Seq", func(h *api.Head) { h.Seq = 11 }, true},
		{"a greater Sum", func(h *api.Head) { h.Sum = 8 }, true},
		{"Old", func(h *api.Head) { h.Age = 3600 }, true},
		{"much younger", func(h *api.Head) { h.Age = 99 }, true},
		{"much older", func(h *api.Head) { h.Age = 1901 }, false},
		{"a lesser Seq", func(h *api.Head) { h.Seq = 9 }, false},
		{"a lesser Sum", func(h *api.Head) { h.Sum = 6 }, false},
		{"another Type", func(h *api.Head) { h.Type = 2 }, false},
		{"another ID", func(h *api.Head) { h.ID = 6 }, false},
		{"another Adv", func(h *api.Head) { h.Adv = 5 }, false},
	} {
		h := base
		x.change(&h)
		a, state, want := loading(t, base), adjacent.Loading, []api.Head{base}
		if x.goes {
			state, want = adjacent.Full, nil
		}
		wantOut(t, "P14.4: Loading: "+x.what, a.Got(h))
		wantIs(t, "P14.4: Loading: "+x.what, a, state, false, 2, want...)
		a = led(t)
		a.Describe(dd(3, 41, base), nil)
		wantOut(t, "P14.4: Exchange: "+x.what, a.Got(h))
		wantIs(t, "P14.4: Exchange: "+x.what, a, adjacent.Exchange, false, 2, want...)
	}
}

// TestGotInExchange: it is wanted no more, and is not requested when the exchange ends.
func TestGotInExchange(t *testing.T) {
	a := led(t)
	a.Describe(dd(3, 41, heads(1, 20)...), nil)
	for _, h := range heads(1, 19) {
		wantOut(t, "P14.4: Exchange", a.Got(h))
	}
	wantDescribe(t, "P14.4: Exchange", a, dd(1, 42), nil, api.OK, told(0, 42), asks(head(20, 1)))
	b := leading(t)
	b.Describe(dd(2, 101, head(1, 1)), nil)
	wantOut(t, "P14.4: Exchange, all", b.Got(head(1, 1)))
	wantIs(t, "P14.4: Exchange, all", b, adjacent.Exchange, true, 2)
	wantDescribe(t, "P14.4: Exchange, all", b, dd(0, 102), nil, api.OK)
	wantIs(t, "P14.4: Exchange, all", b, adjacent.Full, true, 2)
}

// TestGotOfNothing: in Start and Full nothing is wanted.
func TestGotOfNothing(t *testing.T) {
	for what, a := range map[string]*adjacent.Adjacency{"Start": made(t, low()), "Full": full(t)} {
		state := a.State()
		wantOut(t, "P14.4: "+what, a.Got(head(1, 1)))
		wantIs(t, "P14.4: "+what, a, state, false, a.Opts())
	}
}

// TestAsked: the keys as they were asked, in their order, twice where they are asked twice.
func TestAsked(t *testing.T) {
	own := append(heads(1, 30), api.Head{Type: 200, ID: 7, Adv: 8, Age: 3600})
	k := keys(own)
	slices.Reverse(k)
	twice := []api.Key{k[3], k[0], k[3], k[29]}
	for what, make := range map[string]func() *adjacent.Adjacency{
		"Exchange": func() *adjacent.Adjacency { return led(t) },
		"Loading":  func() *adjacent.Adjacency { return loading(t, head(1, 1)) },
		"Full":     func() *adjacent.Adjacency { return full(t) },
	} {
		a := make()
		state, wants := a.State(), a.Wants()
		for _, l := range [][]api.Key{nil, {}, k[:1], twice, k} {
			wantAsked(t, "P14.3: "+what, a, l, own, api.OK, l)
		}
		wantAsked(t, "P14.3: nothing of nothing", a, nil, nil, api.OK, nil)
		wantIs(t, "P14.3: "+what, a, state, false, 2, wants...)
		number := uint32(42)
		if state == adjacent.Exchange {
			number = 41
		}
		for _, l := range [][]api.Key{{{Type: 1, ID: 1, Adv: 2}}, {k[0], {Type: 2, ID: 1, Adv: 1}}, {{Type: 1, ID: 2, Adv: 1}, k[0]}, append(keys(own), api.Key{})} {
			b := make()
			wantAsked(t, "P14.3: not there, "+what, b, l, own, api.ErrSeq, nil, told(7, number))
			wantIs(t, "P14.3: not there, "+what, b, adjacent.Start, false, 0)
			wantAsked(t, "P14.3: Start", b, l, own, api.ErrState, nil)
		}
	}
	b := fullMaster(t)
	wantAsked(t, "P14.3: a master", b, k, own, api.OK, k)
	wantAsked(t, "P14.3: a master", b, k, own[1:], api.ErrSeq, nil, told(7, 102))
}

// TestAskedInStart: nothing is answered, and nothing changes.
func TestAskedInStart(t *testing.T) {
	a := made(t, low())
	a.Tick()
	for _, l := range [][]api.Key{nil, keys(heads(1, 1)), {{}}} {
		wantAsked(t, "P14.3: Start", a, l, heads(1, 1), api.ErrState, nil)
		wantIs(t, "P14.3: Start", a, adjacent.Start, false, 0)
	}
	wantTicks(t, "P14.3: Start", a, 4, told(7, 100))
}

// TestAnew: from every state: one number more, and nothing of before is left.
func TestAnew(t *testing.T) {
	for what, x := range map[string]struct {
		a      *adjacent.Adjacency
		number uint32
		master bool
	}{
		"Start":            {made(t, low()), 101, false},
		"Exchange":         {led(t, heads(50, 20)...), 41, false},
		"Loading":          {loading(t, heads(1, 40)...), 42, false},
		"Full":             {full(t), 42, false},
		"Start, master":    {made(t, high()), 101, true},
		"Exchange, master": {leading(t, heads(50, 20)...), 102, true},
		"Full, master":     {fullMaster(t), 102, true},
	} {
		wantOut(t, "P14.4: Anew: "+what, x.a.Anew(), told(7, x.number))
		wantIs(t, "P14.4: Anew: "+what, x.a, adjacent.Start, false, 0)
		wantTicks(t, "P14.4: Anew: "+what, x.a, 5, told(7, x.number))
		wantOut(t, "P14.4: Anew again: "+what, x.a.Anew(), told(7, x.number+1))
		if x.master {
			wantDescribe(t, "P14.4: "+what, x.a, dd(0, x.number), nil, api.ErrSeq)
			wantDescribe(t, "P14.4: "+what, x.a, dd(0, x.number+1), nil, api.OK, told(1, x.number+2))
			wantDescribe(t, "P14.4: "+what, x.a, dd(0, x.number+2), nil, api.OK)
		} else {
			p := dd(7, 40)
			p.Opts = 9
			wantDescribe(t, "P14.4: "+what, x.a, p, nil, api.OK, told(0, 40))
			p.Flags, p.Seq = 1, 41
			wantDescribe(t, "P14.4: "+what, x.a, p, nil, api.OK, told(0, 41))
		}
		wantIs(t, "P14.4: "+what, x.a, adjacent.Full, x.master, x.a.Opts())
	}
}

// TestTick: what is sent again in each state, and when.
func TestTick(t *testing.T) {
	own := heads(50, 20)
	for _, rxmt := range []int{1, 2, 5, 300, 65535} {
		c, d := low(), high()
		c.Rxmt, d.Rxmt = uint16(rxmt), uint16(rxmt)
		a, b := made(t, c), made(t, d)
		for range 3 {
			wantTicks(t, "P14.5: Start", a, rxmt, told(7, 100))
			wantTicks(t, "P14.5: Start, master", b, rxmt, told(7, 100))
		}
		for range rxmt - 1 {
			a.Tick()
			b.Tick()
		}
		a.Describe(dd(7, 40), own)
		b.Describe(dd(2, 100), own)
		for range 2*rxmt + 1 {
			wantOut(t, "P14.5: Exchange", a.Tick())
		}
		for range 3 {
			wantTicks(t, "P14.5: Exchange, master", b, rxmt, told(3, 101, own[:16]...))
		}
		for range rxmt - 1 {
			b.Tick()
		}
		b.Describe(dd(0, 101, head(1, 1)), own)
		wantTicks(t, "P14.5: Exchange, the next of the master", b, rxmt, told(1, 102, own[16:]...))
		a.Describe(dd(1, 41, heads(1, 20)...), nil)
		for range 3 {
			wantTicks(t, "P14.5: Loading", a, rxmt, asks(heads(1, 16)...))
		}
		for range rxmt - 1 {
			b.Tick()
		}
		wantDescribe(t, "P14.5: Loading, master", b, dd(0, 102), own, api.OK, asks(head(1, 1)))
		wantTicks(t, "P14.5: Loading, master", b, rxmt, asks(head(1, 1)))
		for _, h := range heads(1, 20) {
			a.Got(h)
		}
		b.Got(head(1, 1))
		for range 2*rxmt + 1 {
			wantOut(t, "P14.5: Full", a.Tick())
			wantOut(t, "P14.5: Full, master", b.Tick())
		}
	}
}

// TestTickCountsFromTheLast: a request that follows begins the time anew; what the other repeats, or asks, does not.
func TestTickCountsFromTheLast(t *testing.T) {
	all := heads(1, 20)
	a := loading(t, all...)
	for range 4 {
		a.Tick()
	}
	wantDescribe(t, "P14.5: the same again", a, dd(1, 41), nil, api.OK, told(0, 41))
	wantAsked(t, "P14.5: asked", a, nil, nil, api.OK, nil)
	wantOut(t, "P14.5: in spite of it", a.Tick(), asks(all[:16]...))
	for range 4 {
		a.Tick()
	}
	for _, h := range all[:15] {
		a.Got(h)
	}
	wantOut(t, "P14.5: the first that are wanted then", a.Tick(), asks(all[15:]...))
	for range 3 {
		a.Tick()
	}
	wantOut(t, "P14.5: the last request has more keys now", a.Got(all[15]))
	wantTicks(t, "P14.5", a, 2, asks(all[16:]...))

	a = loading(t, all...)
	for range 4 {
		a.Tick()
	}
	for _, h := range all[:16] {
		a.Got(h)
	}
	wantTicks(t, "P14.5: from the next request on", a, 5, asks(all[16:]...))

	b := leading(t, all...)
	for range 4 {
		b.Tick()
	}
	wantDescribe(t, "P14.5: the same again, master", b, dd(2, 100), nil, api.OK)
	wantOut(t, "P14.5: in spite of it, master", b.Tick(), told(3, 101, all[:16]...))

	c := made(t, low())
	for range 4 {
		c.Tick()
	}
	wantOut(t, "P14.5: Anew", c.Anew(), told(7, 101))
	wantTicks(t, "P14.5: Anew", c, 5, told(7, 101))
}

// TestOpts: those of the last that was taken, not the own ones, nor those of one that was refused.
func TestOpts(t *testing.T) {
	c := low()
	c.Opts = 0x42
	a := made(t, c)
	p := dd(7, 40, head(1, 1))
	p.Opts = 9
	a.Describe(p, nil)
	wantIs(t, "P14.6: refused", a, adjacent.Start, false, 0)
	p.Heads = nil
	out, _ := a.Describe(p, nil)
	wantIs(t, "P14.6: taken", a, adjacent.Exchange, false, 9)
	if len(out) != 1 || out[0].DD.Opts != 0x42 {
		t.Errorf("P14.2: the own Opts: %v", out)
	}
	p.Seq, p.Flags = 41, 1
	a.Describe(p, nil)
	wantIs(t, "P14.6: Full", a, adjacent.Full, false, 9)
	p.Opts = 8
	a.Describe(p, nil)
	wantIs(t, "P14.6: anew", a, adjacent.Start, false, 0)
}
