package spread_test

import (
	"bytes"
	"math"
	"reflect"
	"slices"
	"testing"

	"lodestar/api"
	"lodestar/spread"
)

// of: a state of that ID, with so many bytes behind its head.
func of(id uint32, body int) api.State {
	return api.State{Head: api.Head{Type: 1, ID: id, Adv: 1, Seq: 5, Sum: 7}, Body: bytes.Repeat([]byte{byte(id)}, body)}
}

func newList(t *testing.T, rxmt uint16, states ...api.State) *spread.List {
	t.Helper()
	l, e := spread.New(rxmt)
	if e != api.OK || l == nil {
		t.Fatalf("P15.5: New(%d): %v %d", rxmt, l, e)
	}
	for _, s := range states {
		l.Add(s)
	}
	return l
}

func sameState(a, b api.State) bool { return a.Head == b.Head && bytes.Equal(a.Body, b.Body) }

func wantStates(t *testing.T, what string, got []api.State, want ...api.State) {
	t.Helper()
	if !slices.EqualFunc(got, want, sameState) {
		t.Fatalf("P15.5: %s: %v, want %v", what, got, want)
	}
}

// wantHas: All and Len say that.
func wantHas(t *testing.T, what string, l *spread.List, want ...api.State) {
	t.Helper()
	wantStates(t, what+": All", l.All(), want...)
	if l.Len() != len(want) {
		t.Fatalf("P15.5: %s: Len: %d, want %d", what, l.Len(), len(want))
	}
}

// wantTicks: nothing, till at the n-th tick these are sent again.
func wantTicks(t *testing.T, what string, l *spread.List, n int, want ...api.State) {
	t.Helper()
	for range n - 1 {
		wantStates(t, what+": Tick ahead of its time", l.Tick())
	}
	wantStates(t, what+": Tick", l.Tick(), want...)
}

func TestNew(t *testing.T) {
	if l, e := spread.New(0); l != nil || e != api.ErrArg {
		t.Errorf("P15.5: New(0): %v %d", l, e)
	}
	for _, rxmt := range []uint16{1, 2, 5, 0x7FFF, 0x8000, math.MaxUint16} {
		l := newList(t, rxmt)
		wantHas(t, "New", l)
		wantTicks(t, "New", l, 2*int(rxmt)+1)
		if l.Confirm(api.Head{}) || l.Drop(api.Key{}) {
			t.Error("P15.5: an empty list has something")
		}
	}
}

func TestAdd(t *testing.T) {
	a, b, c := of(1, 3), of(2, 0), of(3, 9)
	l := newList(t, 5, a, b, c)
	wantHas(t, "in the order of coming", l, a, b, c)
	l.Add(a)
	wantHas(t, "the same again, behind all others", l, b, c, a)
	l.Add(a)
	wantHas(t, "the last again", l, b, c, a)
	older := c
	older.Head.Seq, older.Body = 4, []byte{8}
	l.Add(older)
	wantHas(t, "an older one, from the midst", l, b, a, older)
	l.Add(c)
	wantHas(t, "a newer one", l, b, a, c)
	wantHas(t, "one alone", newList(t, 1, a, a), a)
	wantHas(t, "of no key", newList(t, 1, api.State{}, api.State{}), api.State{})
}

// TestKeys: a key is type, ID and router; nothing else is.
func TestKeys(t *testing.T) {
	h := api.Head{Type: 1, ID: 1, Adv: 1, Seq: 5}
	var all []api.State
	for _, f := range []func(*api.Head){func(h *api.Head) {}, func(h *api.Head) { h.Type = 2 }, func(h *api.Head) { h.ID = 2 }, func(h *api.Head) { h.Adv = 2 }} {
		x := h
		f(&x)
		all = append(all, api.State{Head: x})
	}
	l := newList(t, 5, all...)
	wantHas(t, "of four keys", l, all...)
	for i, s := range all {
		if !l.Drop(api.Key{Type: s.Head.Type, ID: s.Head.ID, Adv: s.Head.Adv}) {
			t.Errorf("P15.5: Drop %d", i)
		}
		wantHas(t, "Drop", l, all[i+1:]...)
	}
	same := api.State{Head: api.Head{Age: 9, Opts: 9, Type: 1, ID: 1, Adv: 1, Seq: 9, Sum: 9, Len: 9}}
	wantHas(t, "of one key", newList(t, 5, all[0], all[1], same), all[1], same)
}

func TestConfirm(t *testing.T) {
	listed := api.State{Head: api.Head{Age: 100, Opts: 2, Type: 1, ID: 1, Adv: 1, Seq: 5, Sum: 7, Len: 24}, Body: []byte{1, 2, 3, 4}}
	for _, c := range []struct {
		what string
		set  func(h *api.Head)
		want bool
	}{
		{"itself", func(h *api.Head) {}, true},
		{"a newer one", func(h *api.Head) { h.Seq++ }, false},
		{"an older one", func(h *api.Head) { h.Seq-- }, false},
		{"of a greater sum", func(h *api.Head) { h.Sum++ }, false},
		{"of a lesser sum", func(h *api.Head) { h.Sum-- }, false},
		{"younger", func(h *api.Head) { h.Age = 0 }, true},
		{"as much older as the same may be", func(h *api.Head) { h.Age = 1000 }, true},
		{"one tick more", func(h *api.Head) { h.Age = 1001 }, false},
		{"old", func(h *api.Head) { h.Age = 3600 }, false},
		{"standing still", func(h *api.Head) { h.Age |= 0x8000 }, true},
		{"of other options and length", func(h *api.Head) { h.Opts, h.Len = 0, 0 }, true},
		{"of another type", func(h *api.Head) { h.Type = 2 }, false},
		{"of another ID", func(h *api.Head) { h.ID = 2 }, false},
		{"of another router", func(h *api.Head) { h.Adv = 2 }, false},
	} {
		first, last := of(8, 1), of(9, 1)
		l, h := newList(t, 5, first, listed, last), listed.Head
		c.set(&h)
		if l.Confirm(h) != c.want {
			t.Errorf("P15.5: Confirm: %s: %v", c.what, !c.want)
		}
		if c.want {
			wantHas(t, "Confirm: "+c.what, l, first, last)
		} else {
			wantHas(t, "Confirm: "+c.what, l, first, listed, last)
		}
		if c.want && l.Confirm(h) {
			t.Errorf("P15.5: Confirm: %s: twice", c.what)
		}
	}
	gone := listed
	gone.Head.Age = 3600
	l := newList(t, 5, gone)
	if l.Confirm(listed.Head) || !l.Confirm(api.Head{Age: 0x8000 | 3600, Type: 1, ID: 1, Adv: 1, Seq: 5, Sum: 7}) {
		t.Error("P15.5: Confirm of what is old")
	}
}

// TestDrop: from the front, the midst and the back, till none is left; whatever of the key there is.
func TestDrop(t *testing.T) {
	for at := range 3 {
		l := newList(t, 5, of(0, 1), of(1, 1), of(2, 1))
		k := api.Key{Type: 1, ID: uint32(at), Adv: 1}
		if !l.Drop(k) || l.Drop(k) {
			t.Errorf("P15.5: Drop %d", at)
		}
		rest := slices.Delete([]api.State{of(0, 1), of(1, 1), of(2, 1)}, at, at+1)
		wantHas(t, "Drop", l, rest...)
		l.Add(of(7, 0))
		wantHas(t, "Drop, Add", l, append(rest, of(7, 0))...)
		for _, s := range l.All() {
			if !l.Drop(keyOf(s.Head)) {
				t.Error("P15.5: Drop of what is there")
			}
		}
		wantHas(t, "all dropped", l)
		l.Add(of(8, 0))
		wantHas(t, "all dropped, Add", l, of(8, 0))
	}
	l := newList(t, 5, of(0, 1))
	for _, k := range []api.Key{{}, {Type: 1, ID: 1, Adv: 1}, {Type: 2, Adv: 1}, {Type: 1}} {
		if l.Drop(k) {
			t.Errorf("P15.5: Drop(%v)", k)
		}
	}
	wantHas(t, "Drop of what is not there", l, of(0, 1))
}

func TestClear(t *testing.T) {
	l := newList(t, 3, of(1, 1), of(2, 2))
	l.Tick()
	l.Tick()
	l.Clear()
	wantHas(t, "Clear", l)
	wantTicks(t, "Clear", l, 7)
	if l.Confirm(of(1, 1).Head) || l.Drop(api.Key{Type: 1, ID: 1, Adv: 1}) {
		t.Error("P15.5: Clear left something")
	}
	l.Add(of(2, 2))
	wantHas(t, "Clear, Add", l, of(2, 2))
	wantTicks(t, "Clear, Add", l, 3, of(2, 2))
	l.Clear()
	l.Clear()
	wantHas(t, "Clear twice", l)
}

// TestTick: each rxmt ticks, again and again.
func TestTick(t *testing.T) {
	for _, rxmt := range []int{1, 2, 3, 7, 0x7FFF, 0x8000, math.MaxUint16} {
		l := newList(t, uint16(rxmt), of(1, 1), of(2, 2))
		for range 3 {
			wantTicks(t, "again and again", l, rxmt, of(1, 1), of(2, 2))
		}
		wantHas(t, "what is sent stays", l, of(1, 1), of(2, 2))
	}
}

// TestTickCounts: from when the list was empty last; what comes to others waits with them.
func TestTickCounts(t *testing.T) {
	a, b := of(1, 1), of(2, 2)
	l := newList(t, 5)
	wantTicks(t, "an empty list", l, 13)
	l.Add(a)
	wantTicks(t, "anew behind an empty one", l, 5, a)

	wantTicks(t, "two of five", l, 2)
	l.Add(b)
	wantTicks(t, "three of five", l, 3, a, b)
	wantTicks(t, "two of five", l, 2)
	l.Drop(keyOf(a.Head))
	wantTicks(t, "three of five, one gone", l, 3, b)

	wantTicks(t, "two of five", l, 2)
	l.Add(b)
	wantTicks(t, "three of five: it was not empty, its one state came again", l, 3, b)

	for _, empty := range []func(){func() { l.Drop(keyOf(b.Head)) }, func() { l.Confirm(b.Head) }, func() { l.Clear() }} {
		wantTicks(t, "four of five", l, 4)
		empty()
		l.Add(b)
		wantTicks(t, "anew", l, 5, b)
		wantTicks(t, "four of five", l, 4)
		empty()
		wantTicks(t, "empty at its time", l, 1)
		l.Add(b)
		wantTicks(t, "anew", l, 5, b)
	}
}

// TestPacket: as many as one packet has room for, edge by edge; head and body are counted, not what Len says.
func TestPacket(t *testing.T) {
	heads := make([]api.State, 100)
	for i := range heads {
		heads[i] = of(uint32(i), 0)
		heads[i].Head.Len = 65535
	}
	mixed := []api.State{of(1, 700), of(2, 732), of(3, 0)}
	for _, c := range []struct {
		what   string
		states []api.State
		want   int
	}{
		{"heads alone: 4 and 72 of 20 are 1444, one more would be 1464", heads, 72},
		{"not as many", heads[:71], 71},
		{"as many", heads[:72], 72},
		{"one more", heads[:73], 72},
		{"one that just fits", []api.State{of(1, 1432), of(2, 0)}, 1},
		{"one that just does not", []api.State{of(1, 1433), of(2, 0)}, 1},
		{"one far too great", []api.State{of(1, 70000), of(2, 0)}, 1},
		{"one that leaves room for a head", []api.State{of(1, 1412), of(2, 0), of(3, 0)}, 2},
		{"one that leaves a byte less", []api.State{of(1, 1413), of(2, 0), of(3, 0)}, 1},
		{"two that just fit", []api.State{of(1, 700), of(2, 712), of(3, 0)}, 2},
		{"two that just do not", []api.State{of(1, 700), of(2, 713), of(3, 0)}, 1},
		{"what would fit behind one that does not", mixed, 1},
		{"a great one behind a small one", []api.State{of(1, 0), of(2, 70000), of(3, 0)}, 1},
		{"three", []api.State{of(1, 464), of(2, 464), of(3, 464), of(4, 0)}, 3},
		{"three, a byte too many", []api.State{of(1, 464), of(2, 464), of(3, 465), of(4, 0)}, 2},
	} {
		l := newList(t, 2, c.states...)
		for range 3 {
			wantTicks(t, c.what, l, 2, c.states[:c.want]...)
		}
		wantHas(t, c.what, l, c.states...)
	}
}

// TestFrontMovesOn: when the first are confirmed, the next are sent again.
func TestFrontMovesOn(t *testing.T) {
	var all []api.State
	for i := range uint32(7) {
		all = append(all, of(i, 700))
	}
	l := newList(t, 1, all...)
	for ; len(all) > 0; all = all[min(2, len(all)):] {
		front := all[:min(2, len(all))]
		wantStates(t, "the front", l.Tick(), front...)
		wantStates(t, "the same front", l.Tick(), front...)
		for _, s := range front {
			if !l.Confirm(s.Head) {
				t.Fatal("P15.5: Confirm")
			}
		}
	}
	wantHas(t, "all confirmed", l)
	wantStates(t, "all confirmed", l.Tick())
}

// TestMany: as many as there may be, in and out in any order.
func TestMany(t *testing.T) {
	n := uint32(1 << 16)
	l := newList(t, 1)
	for i := range n {
		l.Add(of(i, 0))
	}
	for i := uint32(0); i < n; i += 2 {
		if !l.Confirm(of(i, 0).Head) {
			t.Fatal("P15.5: Confirm", i)
		}
	}
	for i := range n {
		if l.Drop(keyOf(of(i, 0).Head)) != (i%2 == 1) {
			t.Fatal("P15.5: Drop", i)
		}
	}
	wantHas(t, "all gone", l)
}

// TestNotMade: lists that New did not make have nothing, and take nothing.
func TestNotMade(t *testing.T) {
	for _, l := range []*spread.List{nil, {}, new(spread.List)} {
		l.Add(of(1, 1))
		l.Clear()
		if l.Confirm(of(1, 1).Head) || l.Drop(keyOf(of(1, 1).Head)) || len(l.Tick()) != 0 || len(l.All()) != 0 || l.Len() != 0 {
			t.Error("R3: a list that New did not make has something")
		}
		if l != nil && !reflect.ValueOf(*l).IsZero() {
			t.Error("R3: a list that New did not make was changed")
		}
	}
}

// TestNoBody: a body that is nil and one without bytes are the same.
func TestNoBody(t *testing.T) {
	a, b := of(1, 0), of(1, 0)
	a.Body, b.Body = nil, []byte{}
	for _, s := range []api.State{a, b} {
		l := newList(t, 1, s)
		wantHas(t, "no body", l, a)
		wantStates(t, "no body", l.Tick(), b)
		if !l.Confirm(s.Head) {
			t.Error("P15.5: Confirm, no body")
		}
	}
}

// spoil changes all bytes of it, spare room too.
func spoil(b []byte) {
	for i := range b[:cap(b)] {
		b[:cap(b)][i] ^= 0xFF
	}
}

// TestMemory: a list keeps nothing of what it is handed, and answers nothing of what it keeps.
func TestMemory(t *testing.T) {
	body := make([]byte, 3, 9)
	s := api.State{Head: of(1, 0).Head, Body: body}
	l := newList(t, 1, s, of(2, 5))
	if !bytes.Equal(body[:9], make([]byte, 9)) {
		t.Error("R5: Add changed its argument")
	}
	spoil(body)
	want := []api.State{{Head: s.Head, Body: make([]byte, 3)}, of(2, 5)}
	wantHas(t, "R5: what is kept of an argument", l, want...)
	for _, ask := range []func() []api.State{l.All, l.Tick} {
		first, second := ask(), ask()
		for i := range first {
			spoil(first[i].Body)
			wantStates(t, "R5: another answer", second, want...)
			wantStates(t, "R5: two lists of one answer", first[i+1:], want[i+1:]...)
			first[i].Head = api.Head{}
		}
		if spare := first[:cap(first)]; len(spare) > 0 {
			clear(spare)
		}
		wantStates(t, "R5: another answer", second, want...)
		wantHas(t, "R5: what is kept of an answer", l, want...)
	}
}

// TestTwoLists know nothing of each other.
func TestTwoLists(t *testing.T) {
	a, b := newList(t, 2, of(1, 1)), newList(t, 2, of(1, 1), of(2, 2))
	a.Tick()
	b.Confirm(of(1, 1).Head)
	b.Add(of(3, 3))
	wantHas(t, "R6: the one", a, of(1, 1))
	wantHas(t, "R6: the other", b, of(2, 2), of(3, 3))
	wantTicks(t, "R6: the one", a, 1, of(1, 1))
	wantTicks(t, "R6: the other", b, 2, of(2, 2), of(3, 3))
	a.Clear()
	wantHas(t, "R6: the other", b, of(2, 2), of(3, 3))
}

// TestCallsOfTheChapterAlone: a list has the methods that the chapter lists, and no fields to be seen.
func TestCallsOfTheChapterAlone(t *testing.T) {
	kind := reflect.TypeFor[*spread.List]()
	var names []string
	for i := range kind.NumMethod() {
		names = append(names, kind.Method(i).Name)
	}
	if want := []string{"Add", "All", "Clear", "Confirm", "Drop", "Len", "Tick"}; !slices.Equal(names, want) {
		t.Errorf("P15.5: methods: %v, want %v", names, want)
	}
	for i := range kind.Elem().NumField() {
		if f := kind.Elem().Field(i); f.IsExported() {
			t.Errorf("P15.5: a field is to be seen: %s", f.Name)
		}
	}
}
