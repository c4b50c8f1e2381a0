package order_test

import (
	"math"
	"math/rand/v2"
	"testing"

	"lodestar/api"
	"lodestar/order"
)

// sign: -1, 0 or 1, as n is below 0, is 0, or above.
func sign(n int64) int {
	switch {
	case n < 0:
		return -1
	case n > 0:
		return 1
	}
	return 0
}

// stands: does an age stand still?
func stands(age uint16) bool { return age >= 32768 }

// yearsOf: the years of an age, as the chapter words them.
func yearsOf(age uint16) int { return min(int(age)%32768, 3600) }

// newer: which head is the newer one, as the chapter words it.
func newer(a, b api.Head) int {
	if a.Seq != b.Seq {
		return sign(int64(a.Seq) - int64(b.Seq))
	}
	if a.Sum != b.Sum {
		return sign(int64(a.Sum) - int64(b.Sum))
	}
	x, y := yearsOf(a.Age), yearsOf(b.Age)
	switch {
	case x == 3600 && y != 3600:
		return 1
	case x != 3600 && y == 3600:
		return -1
	case x+900 < y:
		return 1
	case y+900 < x:
		return -1
	}
	return 0
}

func wantNext(t *testing.T, what string, seq, want int32, is bool) {
	t.Helper()
	if got, ok := order.Next(seq); got != want || ok != is {
		t.Errorf("%s: Next of %d: %d %t; want %d %t", what, seq, got, ok, want, is)
	}
}

func wantAge(t *testing.T, what string, age uint16, passed int, want uint16) {
	t.Helper()
	if got := order.Age(age, passed); got != want {
		t.Errorf("%s: Age of %#x, %d: %#x; want %#x", what, age, passed, got, want)
	}
}

func wantOld(t *testing.T, what string, age uint16, want bool) {
	t.Helper()
	if order.Old(age) != want {
		t.Errorf("%s: Old of %#x: not %t", what, age, want)
	}
}

// wantTurned asks both ways round: turned round, the answer is the negative.
func wantTurned[T any](t *testing.T, what string, ask func(a, b T) int, a, b T, want int) {
	t.Helper()
	if got := ask(a, b); got != want {
		t.Errorf("%s: of %v and %v: %d; want %d", what, a, b, got, want)
	}
	if got := ask(b, a); got != -want {
		t.Errorf("%s, turned round: of %v and %v: %d; want %d", what, b, a, got, -want)
	}
}

func wantNewer(t *testing.T, what string, a, b api.Head, want int) {
	t.Helper()
	wantTurned(t, what, order.Newer, a, b, want)
}

func wantKeys(t *testing.T, what string, a, b api.Key, want int) {
	t.Helper()
	wantTurned(t, what, order.Keys, a, b, want)
}

func TestExamples(t *testing.T) {
	wantNext(t, "example: Next", api.FirstSeq, -2147483646, true)
	wantNext(t, "example: Next", -1, 0, true)
	wantNext(t, "example: Next", api.LastSeq, 0, false)
	wantAge(t, "example: Age", 10, 5, 15)
	wantAge(t, "example: Age", 3599, 9, 3600)
	wantAge(t, "example: Age", 0x8005, 9, 0x8005)
	wantAge(t, "example: Age", 0x9000, 9, 0x9000)
	wantAge(t, "example: Age", 7, -1, 7)
	wantOld(t, "example: Old", 3600, true)
	wantOld(t, "example: Old", 0x8E10, true)
	wantOld(t, "example: Old", 0x8E0F, false)
	wantNewer(t, "example: Newer", api.Head{Seq: 5}, api.Head{Seq: 4}, 1)
	wantNewer(t, "example: Newer", api.Head{Seq: 5, Sum: 1}, api.Head{Seq: 5, Sum: 2}, -1)
	for _, c := range []struct {
		a, b uint16
		want int
	}{{3600, 10, 1}, {0, 901, 1}, {0, 900, 0}, {0x8000, 901, 1}, {0x8E10, 3600, 0}} {
		wantNewer(t, "example: Newer, ages", api.Head{Age: c.a}, api.Head{Age: c.b}, c.want)
	}
}

// seqs: numbers at the edges, and some between.
func seqs() []int32 {
	return []int32{math.MinInt32, api.FirstSeq, api.FirstSeq + 1, -65537, -65536, -2, -1, 0, 1, 2, 255, 256, 65535, 65536, api.LastSeq - 1, api.LastSeq}
}

func TestSeq(t *testing.T) {
	for i, a := range seqs() {
		for j, b := range seqs() {
			if got, want := order.Seq(a, b), sign(int64(i-j)); got != want {
				t.Errorf("P5.1: Seq of %d and %d: %d; want %d", a, b, got, want)
			}
		}
	}
}

func TestNext(t *testing.T) {
	for _, seq := range seqs() {
		if seq == api.LastSeq {
			wantNext(t, "P5.1: the last", seq, 0, false)
			continue
		}
		wantNext(t, "P5.1", seq, int32(int64(seq)+1), true)
		if n, _ := order.Next(seq); order.Seq(n, seq) != 1 {
			t.Errorf("P5.1: %d is not greater than %d", n, seq)
		}
	}
}

// passes: how many ticks pass: none, fewer than none, some, and so many that a sum of 16, 32 or 64 bits would wrap round.
func passes() []int {
	return []int{math.MinInt, -65536, -3600, -1, 0, 1, 2, 899, 1800, 3599, 3600, 3601, 28000, 29168, 32767, 32768, 61935, 61936, 65535, 65536, 65537, 1 << 31, 1 << 32, math.MaxInt - 1, math.MaxInt}
}

func TestAgeOfEveryAge(t *testing.T) {
	for age := range 1 << 16 {
		a := uint16(age)
		for _, passed := range passes() {
			switch {
			case stands(a):
				wantAge(t, "P5.2: stands still", a, passed, a)
			case passed < 1:
				wantAge(t, "P5.2: nothing passed", a, passed, a)
			default:
				wantAge(t, "P5.2", a, passed, uint16(min(yearsOf(a)+min(passed, 1<<20), 3600)))
			}
		}
	}
}

func TestOldOfEveryAge(t *testing.T) {
	for age := range 1 << 16 {
		wantOld(t, "P5.2", uint16(age), yearsOf(uint16(age)) == 3600)
	}
}

func TestAgingInTwoPieces(t *testing.T) {
	for age := 0; age < 1<<16; age += 37 {
		a := uint16(age)
		for _, first := range []int{-5, 0, 1, 700, 1800, 3600, 40000} {
			for _, then := range []int{-5, 0, 1, 700, 1800, 3600, 40000} {
				wantAge(t, "what follows: aging in two pieces", order.Age(a, first), then, order.Age(a, max(first, 0)+max(then, 0)))
			}
		}
	}
}

func TestOldStaysSo(t *testing.T) {
	for age := range 1 << 16 {
		for _, passed := range passes() {
			if a := uint16(age); order.Old(a) && !order.Old(order.Age(a, passed)) {
				t.Errorf("what follows: %#x is Old, but not %d ticks later", a, passed)
			}
		}
	}
}

// ages: those at the edges of what Newer asks, standing still or not.
func ages() []uint16 {
	var out []uint16
	for _, years := range []uint16{0, 1, 2, 899, 900, 901, 902, 1799, 1800, 1801, 2698, 2699, 2700, 2701, 3598, 3599, 3600, 3601, 4500, 4501, 0x7FFE, 0x7FFF} {
		out = append(out, years, years|0x8000)
	}
	return out
}

func TestNewerByAges(t *testing.T) {
	for _, x := range ages() {
		for _, y := range ages() {
			a, b := api.Head{Age: x, Seq: -7, Sum: 9}, api.Head{Age: y, Seq: -7, Sum: 9}
			wantNewer(t, "P5.3: ages", a, b, newer(a, b))
		}
	}
	for age := range 1 << 16 {
		for _, x := range []uint16{0, 1000, 2699, 2700, 3599, 3600} {
			a, b := api.Head{Age: uint16(age)}, api.Head{Age: x}
			wantNewer(t, "P5.3: every age", a, b, newer(a, b))
		}
	}
}

func TestNewerByOldAlone(t *testing.T) {
	old := api.Head{Age: 3600}
	for _, age := range []uint16{0, 2699, 2700, 2701, 3599, 0x8000, 0x8000 | 3599} {
		wantNewer(t, "P5.3: just one is Old", old, api.Head{Age: age}, 1)
	}
	for _, age := range []uint16{3600, 3601, 0x7FFF, 0x8000 | 3600, 0xFFFF} {
		wantNewer(t, "P5.3: both are Old", old, api.Head{Age: age}, 0)
	}
}

func TestNewerBySeqAheadOfAll(t *testing.T) {
	numbers := seqs()
	for i, less := range numbers {
		for _, greater := range numbers[i+1:] {
			for _, x := range ages() {
				a := api.Head{Age: x, Seq: greater}
				wantNewer(t, "P5.3: the greater Seq", a, api.Head{Age: 3600, Seq: less, Sum: 65535}, 1)
				wantNewer(t, "P5.3: the greater Seq", a, api.Head{Seq: less, Sum: 65535}, 1)
			}
		}
	}
}

func TestNewerBySumAheadOfAges(t *testing.T) {
	sums := []uint16{0, 1, 255, 256, 32767, 32768, 65534, 65535}
	for i, less := range sums {
		for _, greater := range sums[i+1:] {
			for _, x := range ages() {
				for _, y := range []uint16{0, 3600} {
					wantNewer(t, "P5.3: the greater Sum", api.Head{Age: x, Seq: 3, Sum: greater}, api.Head{Age: y, Seq: 3, Sum: less}, 1)
				}
			}
		}
	}
}

func TestNewerAsksNothingElse(t *testing.T) {
	a := api.Head{Age: 5, Seq: 3, Sum: 4, Len: 20}
	b := api.Head{Age: 6, Opts: 2, Type: 9, ID: 8, Adv: 7, Seq: 3, Sum: 4, Len: 24}
	wantNewer(t, "P5.3: Opts, the key, Len", a, b, 0)
}

func TestNewerOfMixedHeads(t *testing.T) {
	r := rand.New(rand.NewPCG(5, 3))
	few := func() api.Head {
		return api.Head{Age: ages()[r.IntN(len(ages()))], Seq: int32(r.IntN(3)) - 1, Sum: uint16(r.IntN(3))}
	}
	for range 20000 {
		a, b := few(), few()
		wantNewer(t, "P5.3: mixed", a, b, newer(a, b))
	}
}

func TestNewerThanWhatItIsMadeOf(t *testing.T) {
	for _, seq := range seqs() {
		for _, age := range ages() {
			h := api.Head{Age: age, Seq: seq, Sum: 77}
			old := h
			old.Age = 3600
			if order.Old(age) {
				wantNewer(t, "what follows: made Old, as it was", old, h, 0)
			} else {
				wantNewer(t, "what follows: made Old", old, h, 1)
			}
			next, is := order.Next(seq)
			if is {
				wantNewer(t, "what follows: made with Next", api.Head{Seq: next}, h, 1)
			}
		}
	}
}

// keyRow: keys in their order.
func keyRow() []api.Key {
	var out []api.Key
	words := []uint32{0, 1, 2, 255, 256, 65536, 0x7FFFFFFF, 0x80000000, 0xFFFFFFFF}
	for _, kind := range []uint8{0, 1, 2, 5, 11, 127, 128, 255} {
		for _, id := range words {
			for _, adv := range words {
				out = append(out, api.Key{Type: kind, ID: id, Adv: adv})
			}
		}
	}
	return out
}

func TestKeys(t *testing.T) {
	row := keyRow()
	for i, a := range row {
		for j, b := range row[:i+1] {
			wantKeys(t, "P5.4", a, b, sign(int64(i-j)))
		}
	}
}

func TestKeysByTypeThenIDThenAdv(t *testing.T) {
	wantKeys(t, "P5.4: Type ahead of ID and Adv", api.Key{Type: 1, ID: 9, Adv: 9}, api.Key{Type: 2}, -1)
	wantKeys(t, "P5.4: ID ahead of Adv", api.Key{Type: 1, ID: 4, Adv: 9}, api.Key{Type: 1, ID: 5}, -1)
	wantKeys(t, "P5.4: Adv", api.Key{Type: 1, ID: 5, Adv: 9}, api.Key{Type: 1, ID: 5, Adv: 10}, -1)
	wantKeys(t, "P5.4: equal", api.Key{Type: 1, ID: 5, Adv: 9}, api.Key{Type: 1, ID: 5, Adv: 9}, 0)
	wantKeys(t, "P5.4: none", api.Key{}, api.Key{}, 0)
}
