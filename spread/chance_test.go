package spread_test

import (
	"bytes"
	"math/rand/v2"
	"strconv"
	"strings"
	"testing"

	"lodestar/api"
	"lodestar/spread"
)

// pick: one of them, by chance.
func pick[T any](r *rand.Rand, l ...T) T { return l[r.IntN(len(l))] }

// someHead: of few keys, so that they meet often.
func someHead(r *rand.Rand) api.Head {
	return api.Head{
		Age: pick[uint16](r, 0, 0, 0, 1, 901, 3599, 3600, 0x8000, 0x8000|3600), Opts: uint8(r.IntN(2)), Type: uint8(1 + r.IntN(2)), ID: uint32(r.IntN(4)), Adv: uint32(r.IntN(2)),
		Seq: int32(r.IntN(2)), Sum: uint16(r.IntN(2)), Len: uint16(r.IntN(2)),
	}
}

func someState(r *rand.Rand) api.State {
	return api.State{Head: someHead(r), Body: bytes.Repeat([]byte{byte(r.IntN(256))}, pick(r, 0, 1, 40, 200, 456, 464, 465, 700, 712, 713, 1432, 1433, 2000))}
}

// told: a head that is mostly one of the list's, as it is there.
func told(r *rand.Rand, w *words) api.Head {
	if len(w.states) == 0 || r.IntN(5) == 0 {
		return someHead(r)
	}
	h := w.states[r.IntN(len(w.states))].Head
	if r.IntN(4) == 0 {
		h.Seq += pick[int32](r, 1, -1)
	}
	return h
}

// step does one thing by chance to a list and to the words, and holds them against each other; it tells what it did.
func step(t *testing.T, r *rand.Rand, l *spread.List, w *words, row string) string {
	t.Helper()
	h := told(r, w)
	name := strconv.Itoa(int(h.Type)) + "/" + strconv.Itoa(int(h.ID)) + "/" + strconv.Itoa(int(h.Adv))
	switch n := r.IntN(40); {
	case n == 0 && r.IntN(3) == 0:
		l.Clear()
		*w = words{rxmt: w.rxmt, now: w.now}
		return "Clear"
	case n < 12:
		s := someState(r)
		l.Add(s)
		w.add(s)
		return "Add " + strconv.Itoa(len(s.Body))
	case n < 18:
		if got, want := l.Confirm(h), w.confirm(h); got != want {
			t.Fatalf("P15.5: %sConfirm %s: %v", row, name, got)
		}
		return "Confirm " + name
	case n < 21:
		if got, want := l.Drop(keyOf(h)), w.drop(keyOf(h)); got != want {
			t.Fatalf("P15.5: %sDrop %s: %v", row, name, got)
		}
		return "Drop " + name
	}
	wantStates(t, row+"Tick", l.Tick(), w.tick()...)
	return "Tick"
}

// TestRowsOfCalls: lists, each through a row of calls by chance.
func TestRowsOfCalls(t *testing.T) {
	rows := 4000
	if testing.Short() {
		rows = 500
	}
	r := rand.New(rand.NewPCG(15, 1))
	sent, empty := 0, 0
	for range rows {
		rxmt := 1 + r.IntN(5)
		l, w := newList(t, uint16(rxmt)), &words{rxmt: rxmt}
		var done []string
		for range 80 {
			done = append(done, step(t, r, l, w, strings.Join(done, ", ")+": "))
			wantHas(t, strings.Join(done, ", "), l, w.states...)
			if len(w.states) == 0 {
				empty++
			} else if (w.now-w.empty)%rxmt == 0 {
				sent++
			}
		}
	}
	if sent < 10*rows || empty < 5*rows {
		t.Errorf("too seldom to tell: %d times sent, %d times empty", sent, empty)
	}
}
