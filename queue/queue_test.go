package queue_test

import (
	"math"
	"math/rand/v2"
	"reflect"
	"slices"
	"testing"

	"lodestar/queue"
)

// edge: so many entries a queue may have at most.
const edge = 1048576

// words: a queue as the chapter words it: entries in a row, of which the first one is looked for each time.
type words struct {
	row  []queue.Entry
	most int
}

// ahead: is a ahead of b in the chapter's order?
func ahead(a, b queue.Entry) bool {
	switch {
	case a.At != b.At:
		return a.At < b.At
	case a.Rank != b.Rank:
		return a.Rank < b.Rank
	}
	return a.What < b.What
}

// find: the number of the entry with that What; -1, if there is none.
func (w *words) find(what uint64) int {
	for i, e := range w.row {
		if e.What == what {
			return i
		}
	}
	return -1
}

// first: the number of the first entry; -1, if there is none.
func (w *words) first() int {
	best := -1
	for i, e := range w.row {
		if best < 0 || ahead(e, w.row[best]) {
			best = i
		}
	}
	return best
}

func (w *words) put(e queue.Entry) bool {
	if i := w.find(e.What); i >= 0 {
		w.row[i] = e
		return true
	}
	if len(w.row) == w.most {
		return false
	}
	w.row = append(w.row, e)
	return true
}

func (w *words) drop(what uint64) bool {
	i := w.find(what)
	if i >= 0 {
		w.row = append(w.row[:i:i], w.row[i+1:]...)
	}
	return i >= 0
}

func (w *words) next() (queue.Entry, bool) {
	i := w.first()
	if i < 0 {
		return queue.Entry{}, false
	}
	return w.row[i], true
}

func (w *words) take(now int) (queue.Entry, bool) {
	e, is := w.next()
	if !is || e.At > now {
		return queue.Entry{}, false
	}
	w.drop(e.What)
	return e, true
}

// all: the entries in their order, by laying each behind those that are ahead of it.
func (w *words) all() []queue.Entry {
	var l []queue.Entry
	for _, e := range w.row {
		at := 0
		for at < len(l) && ahead(l[at], e) {
			at++
		}
		l = slices.Insert(l, at, e)
	}
	return l
}

func (w *words) copy() *words { return &words{row: slices.Clone(w.row), most: w.most} }

func made(t *testing.T, most int, entries ...queue.Entry) *queue.Queue {
	t.Helper()
	q := queue.New(most)
	if q == nil {
		t.Fatalf("P10.1: New(%d): nil", most)
	}
	for _, e := range entries {
		wantPut(t, q, e, true)
	}
	return q
}

func wantPut(t *testing.T, q *queue.Queue, e queue.Entry, want bool) {
	t.Helper()
	if q.Put(e.At, e.Rank, e.What) != want {
		t.Errorf("P10.2: Put(%d, %d, %d): not %t", e.At, e.Rank, e.What, want)
	}
}

func wantDrop(t *testing.T, q *queue.Queue, what uint64, want bool) {
	t.Helper()
	if q.Drop(what) != want {
		t.Errorf("P10.2: Drop(%d): not %t", what, want)
	}
}

func wantNext(t *testing.T, q *queue.Queue, want queue.Entry, is bool) {
	t.Helper()
	if e, there := q.Next(); e != want || there != is {
		t.Errorf("P10.3: Next: %v, %t; want %v, %t", e, there, want, is)
	}
}

func wantTake(t *testing.T, q *queue.Queue, now int, want queue.Entry, is bool) {
	t.Helper()
	if e, there := q.Take(now); e != want || there != is {
		t.Errorf("P10.3: Take(%d): %v, %t; want %v, %t", now, e, there, want, is)
	}
}

func wantWhen(t *testing.T, q *queue.Queue, what uint64, want int, is bool) {
	t.Helper()
	if at, there := q.When(what); at != want || there != is {
		t.Errorf("P10.4: When(%d): %d, %t; want %d, %t", what, at, there, want, is)
	}
}

func wantLen(t *testing.T, q *queue.Queue, want int) {
	t.Helper()
	if n := q.Len(); n != want {
		t.Errorf("P10.4: Len: %d; want %d", n, want)
	}
}

func wantAll(t *testing.T, q *queue.Queue, want ...queue.Entry) {
	t.Helper()
	if l := q.All(); !slices.Equal(l, want) {
		t.Errorf("P10.4: All: %v; want %v", l, want)
	}
}

// wantSame asks all that may be asked without changing anything.
func wantSame(t *testing.T, q *queue.Queue, w *words) {
	t.Helper()
	first, is := w.next()
	wantNext(t, q, first, is)
	wantLen(t, q, len(w.row))
	wantAll(t, q, w.all()...)
	for _, e := range w.row {
		wantWhen(t, q, e.What, e.At, true)
	}
}

// wantDrained takes entry by entry, in the order of l, each at its own time and none ahead of it.
func wantDrained(t *testing.T, q *queue.Queue, l []queue.Entry) {
	t.Helper()
	for i, e := range l {
		if e.At > math.MinInt {
			wantTake(t, q, e.At-1, queue.Entry{}, false)
		}
		wantTake(t, q, e.At, e, true)
		wantWhen(t, q, e.What, 0, false)
		wantLen(t, q, len(l)-i-1)
	}
	wantNext(t, q, queue.Entry{}, false)
	wantTake(t, q, math.MaxInt, queue.Entry{}, false)
	wantAll(t, q)
}

func entry(at, rank int, what uint64) queue.Entry {
	return queue.Entry{At: at, Rank: rank, What: what}
}

func TestExamples(t *testing.T) {
	q := made(t, 2)
	wantPut(t, q, entry(5, 0, 7), true)
	wantPut(t, q, entry(5, 0, 6), true)
	wantPut(t, q, entry(4, 0, 9), false)
	wantLen(t, q, 2)
	wantNext(t, q, entry(5, 0, 6), true)
	wantPut(t, q, entry(6, 0, 6), true)
	wantNext(t, q, entry(5, 0, 7), true)
	wantTake(t, q, 4, queue.Entry{}, false)
	wantTake(t, q, 5, entry(5, 0, 7), true)
	wantWhen(t, q, 6, 6, true)
	wantWhen(t, q, 7, 0, false)
	wantDrop(t, q, 6, true)
	wantDrop(t, q, 6, false)
	wantLen(t, q, 0)
}

func TestNew(t *testing.T) {
	for _, most := range []int{math.MinInt, -edge, -2, -1, 0, edge + 1, edge + 2, 1 << 31, 1 << 32, 1<<32 + 1, math.MaxInt} {
		if queue.New(most) != nil {
			t.Errorf("P10.1: New(%d): not nil", most)
		}
	}
	for _, most := range []int{1, 2, 3, edge - 1, edge} {
		q := made(t, most)
		wantSame(t, q, &words{})
		wantTake(t, q, math.MaxInt, queue.Entry{}, false)
		wantDrop(t, q, 0, false)
		wantWhen(t, q, 0, 0, false)
	}
}

// TestMost: at the limit all is as below it; one beyond is refused, till there is room.
func TestMost(t *testing.T) {
	for most := 1; most <= 9; most++ {
		q, w := made(t, most), &words{most: most}
		for i := range most {
			e := entry(50-i, i%3, uint64(i))
			wantPut(t, q, e, w.put(e))
		}
		for range 2 {
			wantPut(t, q, entry(0, 0, 99), false)
			wantWhen(t, q, 99, 0, false)
			wantSame(t, q, w)
		}
		again := entry(-7, 1, uint64(most-1))
		wantPut(t, q, again, w.put(again))
		wantSame(t, q, w)
		wantDrop(t, q, again.What, w.drop(again.What))
		wantPut(t, q, entry(0, 0, 99), w.put(entry(0, 0, 99)))
		wantPut(t, q, entry(0, 0, 98), false)
		wantSame(t, q, w)
		taken, is := w.take(99)
		wantTake(t, q, 99, taken, is)
		wantPut(t, q, entry(1, 0, 98), w.put(entry(1, 0, 98)))
		wantPut(t, q, entry(0, 0, 97), false)
		wantSame(t, q, w)
		wantDrained(t, q, w.all())
	}
}

// TestWidest fills the greatest queue, in which a search through all entries at each call would not end in time.
func TestWidest(t *testing.T) {
	if testing.Short() {
		t.Skip("long")
	}
	r := rand.New(rand.NewPCG(10, 1))
	q := made(t, edge)
	for i := range edge {
		wantPut(t, q, entry(r.IntN(edge/4), r.IntN(3), uint64(i)), true)
	}
	wantPut(t, q, entry(-1, 0, edge), false)
	wantLen(t, q, edge)
	for range edge {
		wantPut(t, q, entry(r.IntN(edge/4), r.IntN(3), uint64(r.IntN(edge))), true)
	}
	for i := 0; i < edge; i += 2 {
		wantDrop(t, q, uint64(i), true)
	}
	c, l := q.Copy(), q.All()
	if len(l) != edge/2 || !slices.IsSortedFunc(l, func(a, b queue.Entry) int {
		if ahead(a, b) {
			return -1
		}
		return 1
	}) {
		t.Fatalf("P10.4: All: %d entries, or not in their order", len(l))
	}
	wantDrained(t, q, l)
	wantLen(t, c, edge/2)
	for i := range edge / 2 {
		wantPut(t, c, entry(0, 0, uint64(2*i)), true)
	}
	wantPut(t, c, entry(0, 0, edge), false)
}

// inOrder: entries at the edges of each number, in the chapter's order.
func inOrder() []queue.Entry {
	return []queue.Entry{
		entry(math.MinInt, 0, 4),
		entry(math.MinInt+1, 5, 3),
		entry(-1<<32, 0, 70),
		entry(-1, math.MinInt, math.MaxUint64),
		entry(-1, math.MaxInt, 9),
		entry(0, math.MinInt, 81),
		entry(0, -1, 7),
		entry(0, -1, math.MaxUint64-1),
		entry(0, 0, 0),
		entry(0, 0, 1),
		entry(0, 0, 1<<32),
		entry(0, 0, 1<<32+1),
		entry(0, 0, math.MaxInt64),
		entry(0, 0, math.MaxInt64+1),
		entry(0, 1<<32, 8),
		entry(0, math.MaxInt, 6),
		entry(1, math.MinInt, 82),
		entry(1<<32, 0, 5),
		entry(math.MaxInt-1, 9, 71),
		entry(math.MaxInt, -9, 72),
	}
}

// TestOrder: At, then Rank, then What; whatever way they came.
func TestOrder(t *testing.T) {
	l := inOrder()
	r := rand.New(rand.NewPCG(10, 2))
	for range 500 {
		q := made(t, len(l))
		for _, i := range r.Perm(len(l)) {
			wantPut(t, q, l[i], true)
		}
		wantAll(t, q, l...)
		wantNext(t, q, l[0], true)
		wantDrained(t, q, l)
	}
}

// TestPairs: of each two the first comes first, whichever was put first.
func TestPairs(t *testing.T) {
	l := inOrder()
	for j := range l {
		for i := range j {
			for _, q := range []*queue.Queue{made(t, 2, l[i], l[j]), made(t, 2, l[j], l[i])} {
				wantAll(t, q, l[i], l[j])
				wantDrained(t, q, []queue.Entry{l[i], l[j]})
			}
		}
	}
}

// permuted hands on each order of n numbers.
func permuted(n int, hand func(order []int)) {
	order := make([]int, 0, n)
	var lay func()
	lay = func() {
		if len(order) == n {
			hand(order)
			return
		}
		for i := range n {
			if !slices.Contains(order, i) {
				order = append(order, i)
				lay()
				order = order[:len(order)-1]
			}
		}
	}
	lay()
}

// TestEachOrder: put in every order, and each of them dropped or put anew, so that it goes up and down.
func TestEachOrder(t *testing.T) {
	const n = 6
	permuted(n, func(order []int) {
		for which := range uint64(n) {
			gone, moved, w := made(t, n), made(t, n), &words{most: n}
			for _, i := range order {
				e := entry(10*i, 0, uint64(i))
				wantPut(t, gone, e, true)
				wantPut(t, moved, e, w.put(e))
			}
			wantDrop(t, gone, which, true)
			for _, at := range []int{-5, 25, 99} {
				again := entry(at, 1, which)
				wantPut(t, moved, again, w.put(again))
				wantSame(t, moved, w)
			}
			wantDrained(t, moved, w.all())
			w.drop(which)
			kept := w.all()
			wantDrained(t, gone, kept)
		}
	})
}

// TestPutAgain: each What is there once, with what was put last.
func TestPutAgain(t *testing.T) {
	q := made(t, 3, entry(5, 1, 1), entry(5, 2, 2), entry(5, 3, 3))
	wantPut(t, q, entry(5, 4, 1), true)
	wantAll(t, q, entry(5, 2, 2), entry(5, 3, 3), entry(5, 4, 1))
	wantPut(t, q, entry(5, 4, 1), true)
	wantAll(t, q, entry(5, 2, 2), entry(5, 3, 3), entry(5, 4, 1))
	wantPut(t, q, entry(4, 9, 3), true)
	wantAll(t, q, entry(4, 9, 3), entry(5, 2, 2), entry(5, 4, 1))
	wantWhen(t, q, 3, 4, true)
	wantPut(t, q, entry(0, 0, 3), true)
	wantWhen(t, q, 3, 0, true)
	wantLen(t, q, 3)
	wantDrop(t, q, 3, true)
	wantWhen(t, q, 3, 0, false)
	wantPut(t, q, entry(6, 0, 3), true)
	wantDrained(t, q, []queue.Entry{entry(5, 2, 2), entry(5, 4, 1), entry(6, 0, 3)})
}

// TestTake: an entry is due at its own time, and at each later one; else it stays.
func TestTake(t *testing.T) {
	for _, at := range []int{math.MinInt + 1, -1 << 32, -1, 0, 1, 1 << 32, math.MaxInt - 1} {
		for _, now := range []int{math.MinInt, at - 1, at, at + 1, math.MaxInt} {
			e := entry(at, math.MaxInt, math.MaxUint64)
			q := made(t, 1, e)
			if now < at {
				wantTake(t, q, now, queue.Entry{}, false)
				wantSame(t, q, &words{row: []queue.Entry{e}})
			} else {
				wantTake(t, q, now, e, true)
				wantSame(t, q, &words{})
			}
		}
	}
	q := made(t, 3, entry(9, 0, 1), entry(3, 0, 2), entry(3, -1, 3))
	wantTake(t, q, 9, entry(3, -1, 3), true)
	wantTake(t, q, 2, queue.Entry{}, false)
	wantTake(t, q, 3, entry(3, 0, 2), true)
	wantTake(t, q, 3, queue.Entry{}, false)
	wantTake(t, q, 9, entry(9, 0, 1), true)
}

// mixedEntry: of few numbers, so that they meet.
func mixedEntry(r *rand.Rand) queue.Entry {
	return entry(r.IntN(9)-4, r.IntN(3)-1, uint64(r.IntN(24)))
}

// step does one thing by chance to a queue and to the words.
func step(t *testing.T, r *rand.Rand, q *queue.Queue, w *words) {
	t.Helper()
	e := mixedEntry(r)
	switch r.IntN(5) {
	case 0:
		wantDrop(t, q, e.What, w.drop(e.What))
	case 1:
		want, is := w.take(e.At)
		wantTake(t, q, e.At, want, is)
	default:
		wantPut(t, q, e, w.put(e))
	}
}

// TestMixed: rows of calls held against the words, in queues that know nothing of each other, some of them copies.
func TestMixed(t *testing.T) {
	r := rand.New(rand.NewPCG(10, 3))
	for range 300 {
		most := 1 + r.IntN(20)
		queues := [3]*queue.Queue{made(t, most), made(t, most+1), made(t, 1)}
		told := [3]*words{{most: most}, {most: most + 1}, {most: 1}}
		for range 200 {
			at := r.IntN(len(queues))
			if r.IntN(40) == 0 {
				from := r.IntN(len(queues))
				queues[at], told[at] = queues[from].Copy(), told[from].copy()
			}
			step(t, r, queues[at], told[at])
			for i, q := range queues {
				wantSame(t, q, told[i])
				wantWhen(t, q, 99, 0, false)
			}
			if t.Failed() {
				t.FailNow()
			}
		}
	}
}

// TestTimeThatNeverFalls: what is taken hangs on the entries alone, not on how they came to be there.
func TestTimeThatNeverFalls(t *testing.T) {
	r := rand.New(rand.NewPCG(10, 4))
	for range 300 {
		w := &words{most: 30}
		for range r.IntN(30) {
			w.put(mixedEntry(r))
		}
		plain, mixed := made(t, 30, w.row...), made(t, 60)
		for i, at := range r.Perm(len(w.row)) {
			wantPut(t, mixed, entry(r.IntN(9)-4, 0, uint64(100+i)), true)
			wantPut(t, mixed, entry(r.IntN(9)-4, 0, w.row[at].What), true)
			wantPut(t, mixed, w.row[at], true)
		}
		for i := range w.row {
			wantDrop(t, mixed, uint64(100+i), true)
		}
		for now := -5; now <= 5; now += r.IntN(3) {
			want, is := w.take(now)
			wantTake(t, plain, now, want, is)
			wantTake(t, mixed, now, want, is)
			if is && want.At > now {
				t.Fatalf("P10.3: %v at %d", want, now)
			}
		}
		wantSame(t, plain, w)
		wantSame(t, mixed, w)
	}
}

// TestCopy: the same entries and most; what is done to one of them the other does not know.
func TestCopy(t *testing.T) {
	l := []queue.Entry{entry(1, 0, 1), entry(2, 0, 2), entry(3, 0, 3)}
	q := made(t, 4, l...)
	c := q.Copy()
	if c == nil || c == q {
		t.Fatal("P10.4: Copy is none, or the queue itself")
	}
	wantAll(t, c, l...)
	wantPut(t, c, entry(0, 0, 9), true)
	wantPut(t, c, entry(0, 0, 8), false)
	wantPut(t, c, entry(-1, 0, 3), true)
	wantDrop(t, c, 2, true)
	wantAll(t, q, l...)
	wantWhen(t, q, 3, 3, true)
	wantWhen(t, q, 9, 0, false)
	wantPut(t, q, entry(7, 0, 4), true)
	wantPut(t, q, entry(7, 0, 5), false)
	wantTake(t, q, 1, l[0], true)
	wantAll(t, c, entry(-1, 0, 3), entry(0, 0, 9), entry(1, 0, 1))
	wantDrained(t, c.Copy(), []queue.Entry{entry(-1, 0, 3), entry(0, 0, 9), entry(1, 0, 1)})
	wantLen(t, c, 3)
	empty := made(t, 1).Copy()
	wantPut(t, empty, l[0], true)
	wantPut(t, empty, l[1], false)
}

// TestSpareRoom: a copy and its queue grow side by side, as no room behind their entries is shared.
func TestSpareRoom(t *testing.T) {
	for n := range 20 {
		q := made(t, 40)
		for i := range n {
			wantPut(t, q, entry(i, 0, uint64(i)), true)
		}
		c := q.Copy()
		for i := range 10 {
			wantPut(t, q, entry(100, i, uint64(100+i)), true)
			wantPut(t, c, entry(200, i, uint64(200+i)), true)
		}
		for i, e := range append(q.All()[n:], c.All()[n:]...) {
			if want := 100 * (1 + i/10); e != entry(want, i%10, uint64(want+i%10)) {
				t.Fatalf("P10.4: %d entries, copied: %v", n, e)
			}
		}
	}
}

// TestMemory: what All answers is the caller's own, spare room too.
func TestMemory(t *testing.T) {
	for n := range 20 {
		w := &words{most: 40}
		for i := range n {
			w.put(entry(100-i, 0, uint64(i)))
		}
		q := made(t, 40, w.row...)
		one, other := q.All(), q.All()
		one = one[:cap(one)]
		for i := range one {
			one[i] = entry(-1, -1, 77)
		}
		if !slices.Equal(other, w.all()) {
			t.Fatal("R5: All answers the same memory twice")
		}
		more := entry(0, 0, 99)
		wantPut(t, q, more, w.put(more))
		wantSame(t, q, w)
		wantDrained(t, q, w.all())
	}
}

func TestQueueThatWasNotMade(t *testing.T) {
	for _, q := range []*queue.Queue{nil, {}, new(queue.Queue), queue.New(0)} {
		for range 2 {
			wantPut(t, q, entry(1, 1, 1), false)
			wantDrop(t, q, 1, false)
			wantNext(t, q, queue.Entry{}, false)
			wantTake(t, q, math.MaxInt, queue.Entry{}, false)
			wantWhen(t, q, 1, 0, false)
			wantLen(t, q, 0)
			wantAll(t, q)
			if q.Copy() != nil {
				t.Error("P10.4: Copy of none is not nil")
			}
		}
	}
}

// TestCallsOfTheChapterAlone: what the heap needs is not handed out, as a call of it could break the order, or panic.
func TestCallsOfTheChapterAlone(t *testing.T) {
	want := []string{"All", "Copy", "Drop", "Len", "Next", "Put", "Take", "When"}
	var got []string
	kind := reflect.TypeFor[*queue.Queue]()
	for i := range kind.NumMethod() {
		got = append(got, kind.Method(i).Name)
	}
	if !slices.Equal(got, want) {
		t.Errorf("R1: calls of a queue: %v; want %v", got, want)
	}
}
