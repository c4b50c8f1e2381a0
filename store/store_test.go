package store_test

import (
	"bytes"
	"math"
	"math/rand/v2"
	"reflect"
	"slices"
	"testing"

	"lodestar/api"
	"lodestar/store"
)

// The numbers of the chapters, told here once more.
const (
	edge  = 4096 // so many states a store may have at most
	full  = 3600 // the years at which a state is Old
	still = 0x8000
)

// row: a state as the words keep it: as it was put, and when.
type row struct {
	x   api.State
	put int
}

// words: a store as the chapter words it: rows in the order in which they came, each looked for from the first on.
type words struct {
	rows []row
	most int
}

func keyOf(h api.Head) api.Key { return api.Key{Type: h.Type, ID: h.ID, Adv: h.Adv} }

// aged: the head of a state that was put, at another time.
func (r row) aged(now int) api.Head {
	h := r.x.Head
	if h.Age >= still || now <= r.put {
		return h
	}
	if passed := now - r.put; passed >= full || int(h.Age)+passed >= full {
		h.Age = full
	} else {
		h.Age += uint16(passed)
	}
	return h
}

// isOld: by the age's bits.
func isOld(h api.Head) bool { return h.Age%still >= full }

// ahead: is the key a ahead of b in the chapter's order?
func ahead(a, b api.Key) bool {
	switch {
	case a.Type != b.Type:
		return a.Type < b.Type
	case a.ID != b.ID:
		return a.ID < b.ID
	}
	return a.Adv < b.Adv
}

// find: the number of the row of that key; -1, if there is none.
func (w *words) find(k api.Key) int {
	for i, r := range w.rows {
		if keyOf(r.x.Head) == k {
			return i
		}
	}
	return -1
}

func (w *words) put(now int, x api.State) api.Errno {
	i := w.find(keyOf(x.Head))
	switch {
	case now < 0:
		return api.ErrArg
	case i >= 0:
		w.rows[i] = row{x, now}
	case len(w.rows) == w.most:
		return api.ErrFull
	default:
		w.rows = append(w.rows, row{x, now})
	}
	return api.OK
}

func (w *words) drop(k api.Key) bool {
	i := w.find(k)
	if i >= 0 {
		w.rows = append(w.rows[:i:i], w.rows[i+1:]...)
	}
	return i >= 0
}

// all: the states at that time in their order, by laying each behind those that are ahead of it.
func (w *words) all(now int) []api.State {
	var l []api.State
	if now < 0 {
		return l
	}
	for _, r := range w.rows {
		x := api.State{Head: r.aged(now), Body: r.x.Body}
		at := 0
		for at < len(l) && ahead(keyOf(l[at].Head), keyOf(x.Head)) {
			at++
		}
		l = slices.Insert(l, at, x)
	}
	return l
}

// due: the keys of those of all that are Old.
func (w *words) due(now int) []api.Key {
	var l []api.Key
	for _, x := range w.all(now) {
		if isOld(x.Head) {
			l = append(l, keyOf(x.Head))
		}
	}
	return l
}

// next: by going on from the time of each row, tick by tick.
func (w *words) next(now int) (int, bool) {
	best, is := 0, false
	for _, r := range w.rows {
		if now < 0 || isOld(r.aged(now)) {
			continue
		}
		from := max(now, r.put)
		for tick := 1; tick <= full && from <= math.MaxInt-tick; tick++ {
			if isOld(r.aged(from + tick)) {
				if at := from + tick; !is || at < best {
					best, is = at, true
				}
				break
			}
		}
	}
	return best, is
}

func (w *words) copy() *words { return &words{rows: slices.Clone(w.rows), most: w.most} }

func made(t *testing.T, most int) *store.Store {
	t.Helper()
	s := store.New(most)
	if s == nil {
		t.Fatalf("P11.1: New(%d): nil", most)
	}
	return s
}

func sameState(a, b api.State) bool { return a.Head == b.Head && bytes.Equal(a.Body, b.Body) }

func wantPut(t *testing.T, s *store.Store, now int, x api.State, want api.Errno) {
	t.Helper()
	if e := s.Put(now, x); e != want {
		t.Errorf("P11.2: Put(%d, %v): %d; want %d", now, x.Head, e, want)
	}
}

func wantDrop(t *testing.T, s *store.Store, k api.Key, want bool) {
	t.Helper()
	if s.Drop(k) != want {
		t.Errorf("P11.2: Drop(%v): not %t", k, want)
	}
}

func wantGet(t *testing.T, s *store.Store, now int, want api.State) {
	t.Helper()
	k := keyOf(want.Head)
	if x, is := s.Get(now, k); !is || !sameState(x, want) {
		t.Errorf("P11.3: Get(%d, %v): %v, %t; want %v", now, k, x, is, want)
	}
}

func wantAge(t *testing.T, s *store.Store, now int, k api.Key, want uint16) {
	t.Helper()
	if x, is := s.Get(now, k); !is || x.Head.Age != want || keyOf(x.Head) != k {
		t.Errorf("P11.3: Get(%d, %v): %v, %t; want the Age %d", now, k, x.Head, is, want)
	}
}

func wantNone(t *testing.T, s *store.Store, now int, k api.Key) {
	t.Helper()
	if x, is := s.Get(now, k); is || x.Head != (api.Head{}) || len(x.Body) != 0 {
		t.Errorf("P11.3: Get(%d, %v): %v, %t; want none", now, k, x, is)
	}
}

func wantWhen(t *testing.T, s *store.Store, k api.Key, want int, is bool) {
	t.Helper()
	if at, there := s.When(k); at != want || there != is {
		t.Errorf("P11.3: When(%v): %d, %t; want %d, %t", k, at, there, want, is)
	}
}

func wantAll(t *testing.T, s *store.Store, now int, want []api.State) {
	t.Helper()
	if l := s.All(now); !slices.EqualFunc(l, want, sameState) {
		t.Errorf("P11.4: All(%d): %v; want %v", now, l, want)
	}
	var heads []api.Head
	for _, x := range want {
		heads = append(heads, x.Head)
	}
	if l := s.Heads(now); !slices.Equal(l, heads) {
		t.Errorf("P11.4: Heads(%d): %v; want %v", now, l, heads)
	}
}

func wantDue(t *testing.T, s *store.Store, now int, want ...api.Key) {
	t.Helper()
	if l := s.Due(now); !slices.Equal(l, want) {
		t.Errorf("P11.4: Due(%d): %v; want %v", now, l, want)
	}
}

func wantNext(t *testing.T, s *store.Store, now, want int, is bool) {
	t.Helper()
	if at, there := s.Next(now); at != want || there != is {
		t.Errorf("P11.4: Next(%d): %d, %t; want %d, %t", now, at, there, want, is)
	}
}

func wantLen(t *testing.T, s *store.Store, want int) {
	t.Helper()
	if n := s.Len(); n != want {
		t.Errorf("P11.5: Len: %d; want %d", n, want)
	}
}

// wantSame asks all that may be asked at a time.
func wantSame(t *testing.T, s *store.Store, w *words, now int) {
	t.Helper()
	all := w.all(now)
	wantAll(t, s, now, all)
	wantDue(t, s, now, w.due(now)...)
	at, is := w.next(now)
	wantNext(t, s, now, at, is)
	wantLen(t, s, len(w.rows))
	for _, x := range all {
		wantGet(t, s, now, x)
	}
	for _, r := range w.rows {
		k := keyOf(r.x.Head)
		wantWhen(t, s, k, r.put, true)
		if now < 0 {
			wantNone(t, s, now, k)
		}
	}
}

// of: a state of a type, that old.
func of(kind uint8, age uint16) api.State {
	return api.State{Head: api.Head{Type: kind, Age: age}, Body: []byte{kind, 7, 0, 255}}
}

func key(kind uint8, id, adv uint32) api.Key { return api.Key{Type: kind, ID: id, Adv: adv} }

func TestExamples(t *testing.T) {
	s := made(t, 1)
	x, y := of(1, 10), of(2, 0x8005)
	wantPut(t, s, 5, x, api.OK)
	wantPut(t, s, 5, y, api.ErrFull)
	wantPut(t, s, -1, x, api.ErrArg)
	wantLen(t, s, 1)
	wantAge(t, s, 8, key(1, 0, 0), 13)
	wantAge(t, s, 2, key(1, 0, 0), 10)
	wantNext(t, s, 5, 3595, true)
	wantDue(t, s, 3595, key(1, 0, 0))
	wantDrop(t, s, key(1, 0, 0), true)
	wantPut(t, s, 9, y, api.OK)
	wantAge(t, s, 5000, key(2, 0, 0), 0x8005)
	wantNext(t, s, 9, 0, false)
	wantWhen(t, s, key(2, 0, 0), 9, true)
}

func TestNew(t *testing.T) {
	for _, most := range []int{math.MinInt, -edge, -1, 0, edge + 1, edge + 2, 1 << 16, 1 << 32, 1<<32 + 1, math.MaxInt} {
		if store.New(most) != nil {
			t.Errorf("P11.1: New(%d): not nil", most)
		}
	}
	for _, most := range []int{1, 2, 3, edge - 1, edge} {
		s := made(t, most)
		for _, now := range []int{math.MinInt, -1, 0, 1, math.MaxInt} {
			wantSame(t, s, &words{}, now)
			wantNone(t, s, now, key(0, 0, 0))
		}
		wantWhen(t, s, key(0, 0, 0), 0, false)
		wantDrop(t, s, key(0, 0, 0), false)
	}
}

// TestMost: at the limit all is as below it; one beyond is refused, till there is room.
func TestMost(t *testing.T) {
	for _, most := range []int{1, 2, 7, edge - 1, edge} {
		s := made(t, most)
		number := func(i int) api.State { return api.State{Head: api.Head{Type: 1, ID: uint32(i)}} }
		for i := range most {
			wantPut(t, s, i, number(i), api.OK)
		}
		for range 2 {
			wantPut(t, s, 0, number(most), api.ErrFull)
			wantNone(t, s, 0, key(1, uint32(most), 0))
			wantWhen(t, s, key(1, uint32(most), 0), 0, false)
			wantLen(t, s, most)
		}
		again := number(most - 1)
		again.Head.Seq = 5
		wantPut(t, s, 9, again, api.OK)
		wantGet(t, s, 9, again)
		wantLen(t, s, most)
		wantPut(t, s, 0, number(most), api.ErrFull)
		wantDrop(t, s, key(1, 0, 0), true)
		wantPut(t, s, 0, number(most), api.OK)
		wantPut(t, s, 0, number(most+1), api.ErrFull)
		wantPut(t, s, 0, number(0), api.ErrFull)
		if l := s.Heads(0); len(l) != most || l[0].ID != 1 || l[most-1].ID != uint32(most) {
			t.Errorf("P11.4: %d heads", len(l))
		}
		wantLen(t, s.Copy(), most)
	}
}

// TestTimesBelowZero: refused ahead of the room, and nothing is told at them.
func TestTimesBelowZero(t *testing.T) {
	s, w := made(t, 1), &words{most: 1}
	for _, now := range []int{-1, -2, -full, math.MinInt} {
		wantPut(t, s, now, of(1, 0), api.ErrArg)
		wantSame(t, s, w, 0)
	}
	wantPut(t, s, 0, of(1, full), w.put(0, of(1, full)))
	for _, now := range []int{-1, -2, -full, math.MinInt} {
		wantPut(t, s, now, of(1, 0), api.ErrArg)
		wantPut(t, s, now, of(2, 0), api.ErrArg)
		wantSame(t, s, w, now)
		wantSame(t, s, w, 0)
	}
}

// ages: at the edges of years, of the highest bit, and of the number.
func ages() []uint16 {
	return []uint16{0, 1, 10, 900, 3598, 3599, 3600, 3601, 4096, 0x7FFF, 0x8000, 0x8001, 0x8005, 0x8E0F, 0x8E10, 0x8E11, 0xFFFF}
}

// times: about a time at which something is put, about the ages that are left then, and at the numbers' edges.
func times(put int) []int {
	l := []int{-1, 0, 1, math.MaxInt - 1, math.MaxInt}
	for _, age := range ages() {
		for near := -1; near <= 1; near++ {
			if passed := full - int(age) + near; put+passed >= 0 {
				l = append(l, put+passed)
			}
		}
	}
	return append(l, put, max(put-1, 0), max(put-full, 0))
}

// TestAges: each age, put at each time, asked at each.
func TestAges(t *testing.T) {
	for _, put := range []int{0, 1, 5, full, 1 << 31, 1 << 32, math.MaxInt - 2*full} {
		for _, age := range ages() {
			x := api.State{Head: api.Head{Age: age, Opts: 2, Type: 3, ID: 4, Adv: 5, Seq: -6, Sum: 7, Len: 8}, Body: []byte{9}}
			s, w := made(t, 1), &words{most: 1}
			wantPut(t, s, put, x, w.put(put, x))
			for _, now := range times(put) {
				wantSame(t, s, w, now)
			}
		}
	}
}

// TestLastTimes: where no number tells when a state will be Old there is no such time.
func TestLastTimes(t *testing.T) {
	for _, age := range ages() {
		for _, back := range []int{0, 1, 2, 3, full - 11, full - 10, full - 9, full - 1, full, full + 1} {
			put := math.MaxInt - back
			s, w := made(t, 2), &words{most: 2}
			wantPut(t, s, put, of(1, age), w.put(put, of(1, age)))
			for _, now := range []int{0, put - 1, put, math.MaxInt - 1, math.MaxInt} {
				wantSame(t, s, w, now)
			}
			wantPut(t, s, 7, of(2, 9), w.put(7, of(2, 9)))
			wantNext(t, s, 8, 7+full-9, true)
		}
	}
}

// TestAsItIs: nothing is asked of a state; what is not its Age stays.
func TestAsItIs(t *testing.T) {
	for _, x := range []api.State{
		{},
		{Head: api.Head{Age: 3, Opts: 255, Type: 255, ID: math.MaxUint32, Adv: math.MaxUint32, Seq: math.MinInt32, Sum: 1, Len: 65535}},
		{Head: api.Head{Type: 6, Seq: math.MaxInt32}, Body: bytes.Repeat([]byte{1, 2, 3}, 30000)},
		{Head: api.Head{Type: 0, Len: 19}, Body: []byte{}},
	} {
		s := made(t, 1)
		wantPut(t, s, 4, x, api.OK)
		wantGet(t, s, 4, x)
		wantAll(t, s, 3, []api.State{x})
		later := x
		later.Head.Age += 20
		wantGet(t, s, 24, later)
		wantAll(t, s, 24, []api.State{later})
	}
}

// inOrder: keys at the edges of each number, in the chapter's order.
func inOrder() []api.Key {
	const top = math.MaxUint32
	return []api.Key{
		key(0, 0, 0), key(0, 0, 1), key(0, top, top),
		key(1, 0, 1<<31), key(1, 0, top), key(1, 2, 8), key(1, 9, 0), key(1, 9, 1), key(1, 1<<31-1, 3), key(1, 1<<31, 2), key(1, top, 0),
		key(2, 0, 0), key(2, 1, 0),
		key(127, 1, 1), key(128, 0, 0), key(255, 0, 5), key(255, top, top),
	}
}

// TestOrder: by Type, then ID, then Adv; in which order they were put counts for nothing, nor when, nor how old they are.
func TestOrder(t *testing.T) {
	r := rand.New(rand.NewPCG(11, 1))
	keys := inOrder()
	for range 300 {
		s, w := made(t, len(keys)), &words{most: len(keys)}
		for _, i := range r.Perm(len(keys)) {
			k := keys[i]
			x := api.State{Head: api.Head{Type: k.Type, ID: k.ID, Adv: k.Adv, Age: ages()[r.IntN(len(ages()))], Seq: r.Int32()}, Body: []byte{byte(i)}}
			now := r.IntN(5000)
			wantPut(t, s, now, x, w.put(now, x))
		}
		now := r.IntN(9000)
		wantSame(t, s, w, now)
		for i, h := range s.Heads(now) {
			if keyOf(h) != keys[i] {
				t.Fatalf("P11.4: %v at %d; want %v", h, i, keys[i])
			}
		}
	}
}

// TestPairs: of each two the first comes first, whichever was put first; also where both are Old.
func TestPairs(t *testing.T) {
	keys := inOrder()
	for j := range keys {
		for i := range j {
			for _, first := range []api.Key{keys[i], keys[j]} {
				s := made(t, 2)
				for n, k := range []api.Key{first, keys[i], keys[j]} {
					wantPut(t, s, n, api.State{Head: api.Head{Type: k.Type, ID: k.ID, Adv: k.Adv}}, api.OK)
				}
				if h := s.Heads(2); len(h) != 2 || keyOf(h[0]) != keys[i] || keyOf(h[1]) != keys[j] {
					t.Errorf("P11.4: Heads: %v", h)
				}
				wantDue(t, s, full+2, keys[i], keys[j])
			}
		}
	}
}

// TestPutAgain: each key is there once, with what was put last, at its time, be that an earlier one.
func TestPutAgain(t *testing.T) {
	s := made(t, 2)
	wantPut(t, s, 100, of(1, 10), api.OK)
	other := api.State{Head: api.Head{Type: 1, Age: 7, Seq: 3}}
	wantPut(t, s, 40, other, api.OK)
	wantLen(t, s, 1)
	wantWhen(t, s, key(1, 0, 0), 40, true)
	wantGet(t, s, 40, other)
	wantAge(t, s, 100, key(1, 0, 0), 67)
	wantNext(t, s, 0, 40+full-7, true)
	wantPut(t, s, 0, of(1, 0x8001), api.OK)
	wantWhen(t, s, key(1, 0, 0), 0, true)
	wantNext(t, s, 0, 0, false)
	wantDrop(t, s, key(1, 0, 0), true)
	wantDrop(t, s, key(1, 0, 0), false)
	wantWhen(t, s, key(1, 0, 0), 0, false)
	wantNone(t, s, 0, key(1, 0, 0))
	wantDue(t, s, math.MaxInt)
	wantPut(t, s, 3, of(1, 1), api.OK)
	wantGet(t, s, 3, of(1, 1))
}

// TestKeysAreWhole: two keys that differ in one part alone are two.
func TestKeysAreWhole(t *testing.T) {
	s := made(t, 4)
	keys := []api.Key{key(1, 1, 1), key(1, 1, 2), key(1, 2, 1), key(2, 1, 1)}
	for i, k := range keys {
		wantPut(t, s, i, api.State{Head: api.Head{Type: k.Type, ID: k.ID, Adv: k.Adv}}, api.OK)
	}
	for i, k := range keys {
		wantWhen(t, s, k, i, true)
		wantDrop(t, s, k, true)
		wantLen(t, s, 3-i)
	}
}

// mixedState: of few keys, so that they meet.
func mixedState(r *rand.Rand) api.State {
	age := uint16(r.IntN(full))
	if r.IntN(3) == 0 {
		age = ages()[r.IntN(len(ages()))]
	}
	x := api.State{Head: api.Head{Age: age, Type: uint8(r.IntN(3)), ID: uint32(r.IntN(3)), Adv: uint32(r.IntN(3)), Seq: r.Int32()}}
	for range r.IntN(4) {
		x.Body = append(x.Body, byte(r.IntN(256)))
	}
	return x
}

// step does one thing by chance to a store and to the words.
func step(t *testing.T, r *rand.Rand, s *store.Store, w *words) {
	t.Helper()
	x, now := mixedState(r), r.IntN(4000)-10
	if r.IntN(4) == 0 {
		wantDrop(t, s, keyOf(x.Head), w.drop(keyOf(x.Head)))
	} else {
		wantPut(t, s, now, x, w.put(now, x))
	}
}

// TestMixed: rows of calls held against the words, in stores that know nothing of each other, some of them copies.
func TestMixed(t *testing.T) {
	r := rand.New(rand.NewPCG(11, 2))
	for range 60 {
		most := 1 + r.IntN(20)
		stores := [3]*store.Store{made(t, most), made(t, most+1), made(t, 1)}
		told := [3]*words{{most: most}, {most: most + 1}, {most: 1}}
		for range 60 {
			at := r.IntN(len(stores))
			if r.IntN(30) == 0 {
				from := r.IntN(len(stores))
				stores[at], told[at] = stores[from].Copy(), told[from].copy()
			}
			step(t, r, stores[at], told[at])
			now := r.IntN(8000) - 5
			for i, s := range stores {
				wantSame(t, s, told[i], now)
				wantWhen(t, s, key(9, 0, 0), 0, false)
				wantNone(t, s, now, key(9, 0, 0))
			}
			if t.Failed() {
				t.FailNow()
			}
		}
	}
}

// filled: a store with some states by chance.
func filled(t *testing.T, r *rand.Rand) *store.Store {
	t.Helper()
	s := made(t, 27)
	for range r.IntN(27) {
		wantPut(t, s, r.IntN(500), mixedState(r), api.OK)
	}
	return s
}

// TestNextAndDue: at the time that Next tells something more is Due, and nothing more ahead of it; what is Due stays so.
func TestNextAndDue(t *testing.T) {
	r := rand.New(rand.NewPCG(11, 3))
	for range 30 {
		s := filled(t, r)
		next, is := s.Next(0)
		due := s.Due(0)
		for now := 1; now < 500+full+2; now++ {
			l := s.Due(now)
			for _, k := range due {
				if !slices.Contains(l, k) {
					t.Fatalf("P11.4: %v is Due no more at %d", k, now)
				}
			}
			if (len(l) > len(due)) != (is && now == next) {
				t.Fatalf("P11.4: %d Due at %d, %d ahead of it; Next told %d, %t", len(l), now, len(due), next, is)
			}
			if len(l) > len(due) {
				next, is = s.Next(now)
			}
			wantNext(t, s, now, next, is)
			due = l
		}
		if is {
			t.Fatalf("P11.4: Next(%d) is left, of a store where all had time", next)
		}
	}
}

// TestPutAsFound: a state that is put again as it is found, when its time has come, is the same for all times to come.
func TestPutAsFound(t *testing.T) {
	r := rand.New(rand.NewPCG(11, 4))
	for range 200 {
		s := filled(t, r)
		c := s.Copy()
		now := 500 + r.IntN(2*full)
		for _, h := range c.Heads(now) {
			if r.IntN(2) == 0 {
				x, _ := c.Get(now, keyOf(h))
				wantPut(t, c, now, x, api.OK)
				wantWhen(t, c, keyOf(h), now, true)
			}
		}
		for _, later := range []int{now, now + 1, now + r.IntN(full), now + full, math.MaxInt} {
			wantAll(t, c, later, s.All(later))
			wantDue(t, c, later, s.Due(later)...)
			at, is := s.Next(later)
			wantNext(t, c, later, at, is)
		}
	}
}

// TestAskingChangesNothing: a question, at whatever time, is not seen in what is answered later.
func TestAskingChangesNothing(t *testing.T) {
	r := rand.New(rand.NewPCG(11, 5))
	s, w := made(t, 9), &words{most: 9}
	for range 9 {
		step(t, r, s, w)
	}
	for _, now := range []int{math.MaxInt, 0, 5000, -1, 3, 4999} {
		wantSame(t, s, w, now)
	}
}

// TestCopy: the same states, times and most; what is done to one of them the other does not know.
func TestCopy(t *testing.T) {
	s := made(t, 3)
	wantPut(t, s, 1, of(1, 10), api.OK)
	wantPut(t, s, 2, of(2, 20), api.OK)
	c := s.Copy()
	if c == nil || c == s {
		t.Fatal("P11.5: Copy is none, or the store itself")
	}
	told := &words{rows: []row{{of(1, 10), 1}, {of(2, 20), 2}}}
	for _, now := range []int{0, 1, 2, 3, 5000} {
		wantSame(t, c, told, now)
	}
	wantPut(t, c, 5, of(3, 0), api.OK)
	wantPut(t, c, 5, of(4, 0), api.ErrFull)
	wantPut(t, c, 6, of(1, 0), api.OK)
	wantDrop(t, c, key(2, 0, 0), true)
	wantSame(t, s, told, 9)
	wantPut(t, s, 7, of(5, 0), api.OK)
	wantPut(t, s, 7, of(6, 0), api.ErrFull)
	wantDrop(t, s, key(1, 0, 0), true)
	wantSame(t, c, &words{rows: []row{{of(1, 0), 6}, {of(3, 0), 5}}}, 9)
	empty := made(t, 1).Copy()
	wantPut(t, empty, 0, of(1, 0), api.OK)
	wantPut(t, empty, 0, of(2, 0), api.ErrFull)
}

// spoil overwrites a list, its spare room too.
func spoil(b []byte) {
	b = b[:cap(b)]
	for i := range b {
		b[i] = 0xEE
	}
}

// TestArgument: a state that is put is neither changed nor kept, its spare room neither.
func TestArgument(t *testing.T) {
	s := made(t, 1)
	room := []byte{1, 2, 3, 4, 5, 6, 7, 8}
	wantPut(t, s, 0, api.State{Head: api.Head{Type: 1}, Body: room[:4]}, api.OK)
	x, _ := s.Get(1, key(1, 0, 0))
	spoil(append(x.Body, 9))
	if !bytes.Equal(room, []byte{1, 2, 3, 4, 5, 6, 7, 8}) {
		t.Fatalf("R5: the argument is %v", room)
	}
	spoil(room)
	wantGet(t, s, 0, api.State{Head: api.Head{Type: 1}, Body: []byte{1, 2, 3, 4}})
}

// TestMemory: what is answered is the caller's own, spare room too, each list of it.
func TestMemory(t *testing.T) {
	for size := range 40 {
		s, w := made(t, 9), &words{most: 9}
		for kind := range uint8(5) {
			x := api.State{Head: api.Head{Type: kind}, Body: bytes.Repeat([]byte{kind + 1}, size)}
			wantPut(t, s, 0, x, w.put(0, x))
		}
		kept, c := s.All(0), s.Copy()
		l := s.All(0)
		for i := range l[:cap(l)] {
			spoil(l[:cap(l)][i].Body)
			for later := i + 1; later < len(l); later++ {
				if !sameState(l[later], kept[later]) {
					t.Fatal("R5: two bodies of one answer share memory")
				}
			}
			l[:cap(l)][i] = api.State{}
		}
		x, _ := s.Get(0, key(1, 0, 0))
		spoil(x.Body)
		heads := s.Heads(0)
		clear(heads[:cap(heads)])
		due := s.Due(full)
		clear(due[:cap(due)])
		copied, _ := c.Get(0, key(2, 0, 0))
		spoil(copied.Body)
		wantSame(t, s, w, 0)
		wantSame(t, c, w, full)
		if !slices.EqualFunc(kept, w.all(0), sameState) {
			t.Fatal("R5: All answers the same memory twice")
		}
	}
}

func TestStoreThatWasNotMade(t *testing.T) {
	for _, s := range []*store.Store{nil, {}, new(store.Store), store.New(0)} {
		for range 2 {
			for _, now := range []int{-1, 0, 1, math.MaxInt} {
				wantPut(t, s, now, of(1, 0), api.ErrArg)
				wantNone(t, s, now, key(1, 0, 0))
				wantSame(t, s, &words{}, now)
			}
			wantWhen(t, s, key(1, 0, 0), 0, false)
			wantDrop(t, s, key(1, 0, 0), false)
			if s.Copy() != nil {
				t.Error("P11.5: Copy of none is not nil")
			}
		}
	}
}

// TestCallsOfTheChapterAlone: nothing else is handed out.
func TestCallsOfTheChapterAlone(t *testing.T) {
	want := []string{"All", "Copy", "Drop", "Due", "Get", "Heads", "Len", "Next", "Put", "When"}
	var got []string
	kind := reflect.TypeFor[*store.Store]()
	for i := range kind.NumMethod() {
		got = append(got, kind.Method(i).Name)
	}
	if !slices.Equal(got, want) {
		t.Errorf("calls of a store: %v; want %v", got, want)
	}
}
