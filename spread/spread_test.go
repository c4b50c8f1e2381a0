package spread_test

import (
	"math"
	"testing"

	"lodestar/adjacent"
	"lodestar/api"
	"lodestar/spread"
)

func head(seq int32, age uint16) api.Head {
	return api.Head{Age: age, Type: 1, ID: 1, Adv: 1, Seq: seq, Sum: 7}
}

func wantJudge(t *testing.T, what string, c spread.Came, want uint8) {
	t.Helper()
	if v := spread.Judge(c); v != want {
		t.Errorf("P15.1: %s: Judge(%+v): %d, want %d", what, c, v, want)
	}
}

// TestNumbers: verdicts and ways to confirm have the numbers that the chapter gives them.
func TestNumbers(t *testing.T) {
	verdicts := [6]uint8{spread.Drop, spread.Confirm, spread.Take, spread.Again, spread.Same, spread.Reply}
	if verdicts != [6]uint8{0, 1, 2, 3, 4, 5} {
		t.Errorf("P15.1: verdicts: %v", verdicts)
	}
	ways := [3]uint8{spread.Not, spread.Later, spread.AtOnce}
	if ways != [3]uint8{0, 1, 2} {
		t.Errorf("P15.4: how to confirm: %v", ways)
	}
}

func TestExamples(t *testing.T) {
	h, less, gone := head(5, 0), head(4, 0), head(5, api.MaxAge)
	wantJudge(t, "none there, Got old, Busy", spread.Came{Got: gone, Busy: true}, spread.Take)
	wantJudge(t, "none there, Got old", spread.Came{Got: gone}, spread.Confirm)
	wantJudge(t, "newer, Since 0", spread.Came{Got: h, Has: true, Own: less}, spread.Drop)
	wantJudge(t, "newer, Since 1", spread.Came{Got: h, Has: true, Own: less, Since: 1}, spread.Take)
	wantJudge(t, "newer, Since 0, Mine", spread.Came{Got: h, Has: true, Own: less, Mine: true}, spread.Take)
	wantJudge(t, "Own newer, Asked", spread.Came{Got: less, Has: true, Own: h, Sent: 5, Asked: true}, spread.Again)
	wantJudge(t, "Own newer", spread.Came{Got: less, Has: true, Own: h, Sent: 5}, spread.Reply)
	wantJudge(t, "Own newer, Sent 0", spread.Came{Got: less, Has: true, Own: h}, spread.Drop)
	wantJudge(t, "the same", spread.Came{Got: h, Has: true, Own: h}, spread.Same)
}

// TestJudgeOld: at which ages something is old, with NoAge and without.
func TestJudgeOld(t *testing.T) {
	for age := range math.MaxUint16 + 1 {
		want := spread.Take
		if age&0x7FFF >= 3600 {
			want = spread.Confirm
		}
		wantJudge(t, "none there", spread.Came{Got: head(5, uint16(age))}, want)
		wantJudge(t, "none there, Busy", spread.Came{Got: head(5, uint16(age)), Busy: true}, spread.Take)

		want = spread.Reply
		if age&0x7FFF >= 3600 {
			want = spread.Drop
		}
		own := head(math.MaxInt32, uint16(age))
		wantJudge(t, "Own has the last number", spread.Came{Got: head(5, 0), Has: true, Own: own, Sent: 9}, want)
		own.Seq--
		wantJudge(t, "Own has the last number but one", spread.Came{Got: head(5, 0), Has: true, Own: own, Sent: 9}, spread.Reply)
	}
}

// TestJudgeNone: what there is not is not asked: neither its number nor whose it was.
func TestJudgeNone(t *testing.T) {
	for _, own := range []api.Head{{}, head(9, 0), head(5, 0), head(1, 3600), head(math.MaxInt32, 3600)} {
		for _, asked := range []bool{false, true} {
			for _, mine := range []bool{false, true} {
				c := spread.Came{Got: head(5, 10), Own: own, Asked: asked, Mine: mine}
				wantJudge(t, "none there", c, spread.Take)
				c.Got.Age = 3600
				wantJudge(t, "none there, old", c, spread.Confirm)
				c.Busy = true
				wantJudge(t, "none there, old, Busy", c, spread.Take)
			}
		}
	}
}

// TestJudgeTimes: the least arrival at its edge.
func TestJudgeTimes(t *testing.T) {
	for _, since := range []uint32{0, 1, 2, math.MaxInt32, 1 << 31, math.MaxUint32} {
		soon := since == 0
		c := spread.Came{Got: head(5, 0), Has: true, Own: head(4, 0), Since: since}
		wantJudge(t, "newer", c, map[bool]uint8{true: spread.Drop, false: spread.Take}[soon])
		c.Asked, c.Busy = true, true
		wantJudge(t, "newer, Asked", c, map[bool]uint8{true: spread.Drop, false: spread.Take}[soon])
		c.Mine = true
		wantJudge(t, "newer, Mine", c, spread.Take)
		c = spread.Came{Got: head(4, 0), Has: true, Own: head(5, 0), Sent: since}
		wantJudge(t, "Own newer", c, map[bool]uint8{true: spread.Drop, false: spread.Reply}[soon])
		c.Since, c.Mine = since, true
		wantJudge(t, "Own newer, Mine", c, map[bool]uint8{true: spread.Drop, false: spread.Reply}[soon])
		c.Asked = true
		wantJudge(t, "Own newer, Asked", c, spread.Again)
		c.Got = c.Own
		wantJudge(t, "the same, Asked", c, spread.Again)
		c.Asked = false
		wantJudge(t, "the same", c, spread.Same)
	}
}

// TestJudgeByNewer: number, sum, age decide, and nothing else of the heads.
func TestJudgeByNewer(t *testing.T) {
	own := head(5, 100)
	for _, c := range []struct {
		what string
		got  api.Head
		want uint8
	}{
		{"a greater number", api.Head{Seq: 6, Type: 1, ID: 1, Adv: 1}, spread.Take},
		{"a lesser number", api.Head{Seq: 4, Sum: 9, Age: 3600}, spread.Reply},
		{"a greater sum", api.Head{Seq: 5, Sum: 8, Age: 2000}, spread.Take},
		{"a lesser sum", api.Head{Seq: 5, Sum: 6, Age: 3600}, spread.Reply},
		{"old alone", head(5, 3600), spread.Take},
		{"old alone, standing still", head(5, 0x8000|3600), spread.Take},
		{"as many years apart as the same may be", head(5, 1000), spread.Same},
		{"one more", head(5, 1001), spread.Reply},
		{"other options, length, key", api.Head{Age: 100, Opts: 9, Type: 3, ID: 8, Adv: 7, Seq: 5, Sum: 7, Len: 99}, spread.Same},
		{"the least number", head(math.MinInt32, 0), spread.Reply},
		{"the greatest number", head(math.MaxInt32, 0), spread.Take},
	} {
		wantJudge(t, c.what, spread.Came{Got: c.got, Has: true, Own: own, Since: 3, Sent: 3}, c.want)
	}
}

// someHeads: such that each is newer than some, older than some, and the same as some.
func someHeads() []api.Head {
	var l []api.Head
	for _, seq := range []int32{math.MinInt32, -1, 5, math.MaxInt32 - 1, math.MaxInt32} {
		for _, sum := range []uint16{1, 2} {
			for _, age := range []uint16{0, 900, 901, 3599, 3600, 3601, 0x8000, 0x8000 | 901, 0x8000 | 3600, 0xFFFF} {
				l = append(l, api.Head{Age: age, Type: 1, ID: 1, Adv: 1, Seq: seq, Sum: sum})
			}
		}
	}
	return l
}

// TestJudgeByItsWords: all that may come of some heads and times.
func TestJudgeByItsWords(t *testing.T) {
	times := []uint32{0, 1, 2, math.MaxUint32}
	var seen [6]int
	for _, got := range someHeads() {
		for _, own := range someHeads() {
			for bits := range 256 {
				c := spread.Came{
					Got: got, Has: bits&1 != 0, Own: own, Since: times[bits>>4&3], Sent: times[bits>>6],
					Busy: bits&2 != 0, Asked: bits&4 != 0, Mine: bits&8 != 0,
				}
				want := judgeWords(c)
				seen[want]++
				if v := spread.Judge(c); v != want {
					t.Fatalf("P15.1: Judge(%+v): %d, want %d", c, v, want)
				}
			}
		}
	}
	for v, n := range seen {
		if n < 1000 {
			t.Errorf("the verdict %d was seen too seldom to tell: %d", v, n)
		}
	}
}

func TestGoes(t *testing.T) {
	h, less, more := head(5, 0), head(4, 0), head(6, 0)
	for _, c := range []struct {
		what      string
		stage     uint8
		wants     bool
		wanted    api.Head
		from      bool
		send, got bool
	}{
		{"Start", adjacent.Start, false, api.Head{}, false, false, false},
		{"Start, wanted", adjacent.Start, true, less, false, false, false},
		{"Start, the same wanted", adjacent.Start, true, h, false, false, false},
		{"no state", 4, true, less, false, false, false},
		{"no state", 255, false, api.Head{}, false, false, false},
		{"Exchange", adjacent.Exchange, false, api.Head{}, false, true, false},
		{"Exchange, from it", adjacent.Exchange, false, api.Head{}, true, false, false},
		{"Exchange, not wanted, whatever the head", adjacent.Exchange, false, more, false, true, false},
		{"Exchange, a newer one wanted", adjacent.Exchange, true, more, false, false, false},
		{"Exchange, a newer one wanted, from it", adjacent.Exchange, true, more, true, false, false},
		{"Exchange, the same wanted", adjacent.Exchange, true, h, false, false, true},
		{"Exchange, the same wanted, from it", adjacent.Exchange, true, h, true, false, true},
		{"Exchange, an older one wanted", adjacent.Exchange, true, less, false, true, true},
		{"Exchange, an older one wanted, from it", adjacent.Exchange, true, less, true, false, true},
		{"Loading", adjacent.Loading, false, h, false, true, false},
		{"Loading, from it", adjacent.Loading, false, h, true, false, false},
		{"Loading, a newer one wanted", adjacent.Loading, true, more, false, false, false},
		{"Loading, the same wanted", adjacent.Loading, true, h, false, false, true},
		{"Loading, an older one wanted", adjacent.Loading, true, less, false, true, true},
		{"Loading, an older one wanted, from it", adjacent.Loading, true, less, true, false, true},
		{"Full", adjacent.Full, false, api.Head{}, false, true, false},
		{"Full, from it", adjacent.Full, false, api.Head{}, true, false, false},
		{"Full, where wants says nothing", adjacent.Full, true, more, false, true, false},
		{"Full, where wants says nothing", adjacent.Full, true, h, false, true, false},
		{"Full, where wants says nothing", adjacent.Full, true, less, true, false, false},
	} {
		if send, got := spread.Goes(c.stage, c.wants, c.wanted, h, c.from); send != c.send || got != c.got {
			t.Errorf("P15.2: %s: %v %v, want %v %v", c.what, send, got, c.send, c.got)
		}
	}
}

// TestGoesByItsWords: each number of a state, and heads of all kinds.
func TestGoesByItsWords(t *testing.T) {
	heads := someHeads()
	for stage := range 256 {
		for _, wanted := range heads {
			for i, h := range heads {
				if stage > 3 && i%9 != 0 {
					continue
				}
				for bits := range 4 {
					wants, from := bits&1 != 0, bits&2 != 0
					a, b := goesWords(uint8(stage), wants, wanted, h, from)
					if send, got := spread.Goes(uint8(stage), wants, wanted, h, from); send != a || got != b {
						t.Fatalf("P15.2: Goes(%d, %v, %v, %v, %v): %v %v, want %v %v", stage, wants, wanted, h, from, send, got, a, b)
					}
				}
			}
		}
	}
}

// loading: an adjacency to which that is wanted alone.
func loading(t *testing.T, wanted api.Head) *adjacent.Adjacency {
	t.Helper()
	a, _, e := adjacent.New(adjacent.Config{Self: 1, Other: 2, Rxmt: 5, Types: 0xFFFF})
	if e != api.OK {
		t.Fatal(e)
	}
	for _, p := range []api.DDBody{{Flags: 7, Seq: 40}, {Flags: api.FlagMS, Seq: 41, Heads: []api.Head{wanted}}} {
		if _, e = a.Describe(p, nil); e != api.OK {
			t.Fatal(e)
		}
	}
	return a
}

// TestGotIsWhatAnAdjacencyDrops: got says just when the adjacency itself lets go what is wanted.
func TestGotIsWhatAnAdjacencyDrops(t *testing.T) {
	for _, wanted := range someHeads() {
		for _, h := range someHeads() {
			a := loading(t, wanted)
			_, got := spread.Goes(a.State(), true, wanted, h, true)
			a.Got(h)
			if got != (len(a.Wants()) == 0) {
				t.Fatalf("P15.2: wanted %v, h %v: got %v, but %v is wanted", wanted, h, got, a.Wants())
			}
		}
	}
}

// TestOut: all of it; the bits of a row are shared, chief, backup, came, fromChief, fromBackup, from the lowest on.
func TestOut(t *testing.T) {
	for bits := range 64 {
		shared, chief, backup := bits&1 != 0, bits&2 != 0, bits&4 != 0
		came, fromChief, fromBackup := bits&8 != 0, bits&16 != 0, bits&32 != 0
		want := true
		if came {
			if fromChief || fromBackup {
				want = false
			} else if shared && backup {
				want = false
			}
		}
		if spread.Out(shared, chief, backup, came, fromChief, fromBackup) != want {
			t.Errorf("P15.3: Out(%v, %v, %v, %v, %v, %v): %v", shared, chief, backup, came, fromChief, fromBackup, !want)
		}
	}
	for _, c := range []struct {
		what                                               string
		shared, chief, backup, came, fromChief, fromBackup bool
		want                                               bool
	}{
		{"it did not come in on it", true, false, true, false, false, false, true},
		{"it did not come in on it, whoever is told to be", true, false, true, false, true, true, true},
		{"it came from the DR", true, false, true, true, true, false, false},
		{"it came from the BDR, to the DR", true, true, false, true, false, true, false},
		{"it came from another, to the DR", true, true, false, true, false, false, true},
		{"it came from another, to the BDR", true, false, true, true, false, false, false},
		{"it came from another, to another", true, false, false, true, false, false, true},
		{"on no shared link nobody is backup", false, false, true, true, false, false, true},
		{"on a line", false, false, false, true, false, false, true},
	} {
		if spread.Out(c.shared, c.chief, c.backup, c.came, c.fromChief, c.fromBackup) != c.want {
			t.Errorf("P15.3: %s: %v", c.what, !c.want)
		}
	}
}

// TestConfirms: each verdict, and each that is none; the signs of a row stand for back, backup, fromChief, implied, from the lowest bit on.
func TestConfirms(t *testing.T) {
	const n, l, o = spread.Not, spread.Later, spread.AtOnce
	rows := map[uint8][16]uint8{
		spread.Confirm: {o, o, o, o, o, o, o, o, o, o, o, o, o, o, o, o},
		// Not back: later; as a backup only what the DR sent.
		spread.Take: {l, n, n, n, l, n, l, n, l, n, n, n, l, n, l, n},
		// Implied: later, as a backup of what the DR sent.
		spread.Same: {o, o, o, o, o, o, o, o, n, n, n, n, n, n, l, l},
	}
	for verdict := range 256 {
		for bits := range 16 {
			v, want := uint8(verdict), rows[uint8(verdict)][bits]
			back, backup, fromChief, implied := bits&1 != 0, bits&2 != 0, bits&4 != 0, bits&8 != 0
			if how := spread.Confirms(v, back, backup, fromChief, implied); how != want {
				t.Errorf("P15.4: Confirms(%d, %v, %v, %v, %v): %d, want %d", v, back, backup, fromChief, implied, how, want)
			}
		}
	}
}
