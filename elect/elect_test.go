package elect_test

import (
	"cmp"
	"math"
	"math/rand/v2"
	"reflect"
	"slices"
	"testing"

	"lodestar/elect"
)

const widest = math.MaxUint32

// v: a voice as the chapter's examples tell it: router, address, priority, DR, BDR.
func v(router, addr uint32, priority uint8, dr, bdr uint32) elect.Voice {
	return elect.Voice{Router: router, Addr: addr, Priority: priority, DR: dr, BDR: bdr}
}

func voices(l ...elect.Voice) []elect.Voice { return l }

// withSelf: self first, then the others, in memory of their own.
func withSelf(self elect.Voice, others []elect.Voice) []elect.Voice {
	return slices.Concat(voices(self), others)
}

func chief(v elect.Voice) bool  { return v.Addr > 0 && v.DR == v.Addr }
func backup(v elect.Voice) bool { return v.Addr > 0 && v.BDR == v.Addr }

// inOrder: the eligible ones that count, by laying them as the chapter's Ahead says.
func inOrder(l []elect.Voice, counts func(elect.Voice) bool) []elect.Voice {
	var kept []elect.Voice
	for _, x := range l {
		if x.Priority > 0 && counts(x) {
			kept = append(kept, x)
		}
	}
	slices.SortStableFunc(kept, func(a, b elect.Voice) int {
		return cmp.Or(cmp.Compare(b.Priority, a.Priority), cmp.Compare(b.Router, a.Router))
	})
	return kept
}

// once: P12.1, told once more by its words.
func once(l []elect.Voice) (dr, bdr uint32) {
	may := inOrder(l, func(x elect.Voice) bool { return !chief(x) })
	if slices.ContainsFunc(may, backup) {
		may = inOrder(may, backup)
	}
	if len(may) > 0 {
		bdr = may[0].Addr
	}
	if chiefs := inOrder(l, chief); len(chiefs) > 0 {
		return chiefs[0].Addr, bdr
	}
	return bdr, bdr
}

// elected: P12.2, told once more by its words.
func elected(self elect.Voice, others []elect.Voice) (dr, bdr uint32) {
	dr, bdr = once(withSelf(self, others))
	isDR, isBDR := self.Addr == dr, self.Addr == bdr
	if isDR == chief(self) && isBDR == backup(self) {
		return dr, bdr
	}
	self.DR, self.BDR = 0, 0
	switch {
	case isDR:
		self.DR = self.Addr
	case isBDR:
		self.BDR = self.Addr
	}
	return once(withSelf(self, others))
}

func wantOnce(t *testing.T, l []elect.Voice, dr, bdr uint32) {
	t.Helper()
	if d, b := elect.Once(l); d != dr || b != bdr {
		t.Fatalf("P12.1: Once(%v): %d, %d; want %d, %d", l, d, b, dr, bdr)
	}
}

func wantElect(t *testing.T, self elect.Voice, others []elect.Voice, dr, bdr uint32) {
	t.Helper()
	if d, b := elect.Elect(self, others); d != dr || b != bdr {
		t.Fatalf("P12.2: Elect(%v, %v): %d, %d; want %d, %d", self, others, d, b, dr, bdr)
	}
}

// wantWords asks both calls of a row of voices, whose first is self.
func wantWords(t *testing.T, l []elect.Voice) {
	t.Helper()
	dr, bdr := once(l)
	wantOnce(t, l, dr, bdr)
	dr, bdr = elected(l[0], l[1:])
	wantElect(t, l[0], l[1:], dr, bdr)
}

func TestExamples(t *testing.T) {
	wantOnce(t, voices(v(1, 11, 1, 0, 0), v(2, 12, 1, 0, 0)), 12, 12)
	wantElect(t, v(1, 11, 1, 0, 0), voices(v(2, 12, 1, 0, 0)), 12, 12)
	wantElect(t, v(2, 12, 1, 0, 0), voices(v(1, 11, 1, 0, 0)), 12, 11)
	wantElect(t, v(1, 11, 1, 0, 0), voices(v(2, 12, 1, 12, 0)), 12, 11)
	wantElect(t, v(9, 19, 5, 0, 0), voices(v(2, 12, 1, 12, 11), v(1, 11, 1, 12, 11)), 12, 11)
	wantElect(t, v(1, 11, 0, 0, 0), nil, 0, 0)
}

func TestOnce(t *testing.T) {
	for _, c := range []struct {
		what    string
		l       []elect.Voice
		dr, bdr uint32
	}{
		{"nobody", nil, 0, 0},
		{"a list without elements", voices(), 0, 0},
		{"alone", voices(v(1, 11, 1, 0, 0)), 11, 11},
		{"alone, and designated", voices(v(1, 11, 1, 11, 0)), 11, 0},
		{"alone, and backup", voices(v(1, 11, 1, 0, 11)), 11, 11},
		{"alone, and both", voices(v(1, 11, 1, 11, 11)), 11, 0},
		{"not eligible, whatever it names", voices(v(1, 11, 0, 11, 11), v(2, 12, 0, 0, 12)), 0, 0},
		{"one is eligible, the least", voices(v(9, 19, 0, 19, 0), v(1, 11, 1, 0, 0), v(8, 18, 0, 0, 18)), 11, 11},
		{"the greater Priority is ahead of the greater Router", voices(v(1, 11, 2, 0, 0), v(9, 19, 1, 0, 0)), 11, 11},
		{"the greater Router, not the greater Addr", voices(v(9, 11, 1, 0, 0), v(1, 19, 1, 0, 0)), 11, 11},
		{"of equal ones the first", voices(v(5, 12, 3, 0, 0), v(5, 13, 3, 0, 0), v(5, 11, 3, 0, 0)), 12, 12},
		{"who names itself backup goes ahead of the others", voices(v(9, 19, 9, 0, 0), v(1, 11, 1, 0, 11)), 11, 11},
		{"of those the one that is ahead", voices(v(1, 11, 1, 0, 11), v(2, 12, 1, 0, 12), v(9, 19, 9, 0, 0)), 12, 12},
		{"who names itself designated is no backup", voices(v(9, 19, 9, 19, 19), v(1, 11, 1, 0, 0)), 19, 11},
		{"a backup that is designated hides no other", voices(v(9, 19, 9, 19, 19), v(1, 11, 1, 0, 0), v(2, 12, 1, 0, 12), v(3, 13, 1, 0, 0)), 19, 12},
		{"of the designated the one that is ahead", voices(v(1, 11, 1, 11, 0), v(2, 12, 2, 12, 0), v(9, 19, 1, 19, 0)), 12, 0},
		{"all are designated", voices(v(1, 11, 1, 11, 0), v(2, 12, 1, 12, 12)), 12, 0},
		{"a backup that is not eligible does not count", voices(v(9, 19, 0, 0, 19), v(1, 11, 1, 0, 0), v(2, 12, 1, 0, 0)), 12, 12},
		{"a designated one that is not eligible does not count", voices(v(9, 19, 0, 19, 0), v(1, 11, 1, 0, 11)), 11, 11},
		{"who is named by others does not count", voices(v(1, 11, 1, 11, 0), v(2, 12, 1, 13, 14), v(3, 13, 1, 14, 12), v(4, 14, 1, 12, 13)), 11, 14},
		{"the address 0 names nobody", voices(v(9, 0, 9, 0, 0), v(1, 11, 1, 11, 0), v(2, 12, 1, 0, 12)), 11, 12},
		{"the address 0, ahead of all", voices(v(9, 0, 9, 0, 0), v(1, 11, 1, 11, 0)), 11, 0},
		{"the address 0, ahead of all, nobody designated", voices(v(9, 0, 9, 0, 0), v(1, 11, 1, 0, 0)), 0, 0},
		{"the address 0, behind another", voices(v(1, 0, 1, 0, 0), v(2, 12, 1, 0, 0)), 12, 12},
		{"the router 0", voices(v(0, 11, 1, 0, 0)), 11, 11},
		{"the widest numbers", voices(v(widest, widest-1, 255, 0, 0), v(widest-1, widest, 255, 0, 0), v(0, 1, 1, 0, 0)), widest - 1, widest - 1},
		{"the widest Priority", voices(v(1, 11, 128, 0, 0), v(2, 12, 255, 0, 0), v(3, 13, 127, 0, 0)), 12, 12},
		{"the widest Router", voices(v(1, 11, 1, 0, 0), v(1<<31, 12, 1, 0, 0), v(1<<31-1, 13, 1, 0, 0)), 12, 12},
		{"one address twice", voices(v(1, 11, 1, 11, 0), v(2, 11, 1, 0, 0)), 11, 11},
	} {
		t.Run(c.what, func(t *testing.T) { wantOnce(t, c.l, c.dr, c.bdr) })
	}
}

func TestElect(t *testing.T) {
	for _, c := range []struct {
		what    string
		self    elect.Voice
		others  []elect.Voice
		dr, bdr uint32
	}{
		{"alone", v(1, 11, 2, 0, 0), nil, 11, 0},
		{"alone, a list without elements", v(1, 11, 2, 0, 0), voices(), 11, 0},
		{"alone, and designated", v(1, 11, 1, 11, 0), nil, 11, 0},
		{"alone, and backup: it rises", v(1, 11, 1, 0, 11), nil, 11, 0},
		{"alone, and both", v(1, 11, 1, 11, 11), nil, 11, 0},
		{"not eligible, though it named itself", v(1, 11, 0, 11, 11), nil, 0, 0},
		{"not eligible, another is", v(1, 11, 0, 11, 0), voices(v(2, 12, 1, 0, 0)), 12, 12},
		{"newly both: designated it is, another is backup", v(9, 19, 1, 0, 0), voices(v(1, 11, 1, 0, 0), v(2, 12, 1, 0, 0)), 19, 12},
		{"newly backup: it names itself so, nothing else comes of it", v(9, 19, 1, 0, 0), voices(v(1, 11, 1, 11, 0), v(2, 12, 1, 11, 0)), 11, 19},
		{"a backup rises, when nobody is designated", v(1, 11, 1, 0, 11), voices(v(9, 19, 9, 0, 0), v(8, 18, 9, 0, 0)), 11, 19},
		{"another backup rises, self hears of no backup yet", v(9, 19, 9, 0, 0), voices(v(1, 11, 1, 0, 11)), 11, 11},
		{"no longer designated: it may be backup then", v(1, 11, 1, 11, 0), voices(v(2, 12, 1, 12, 0)), 12, 11},
		{"no longer designated: another backup stays", v(1, 11, 1, 11, 0), voices(v(2, 12, 1, 12, 0), v(3, 13, 1, 0, 13)), 12, 13},
		{"no longer designated, though backup too", v(1, 11, 1, 11, 11), voices(v(2, 12, 1, 12, 0), v(9, 19, 9, 0, 0)), 12, 19},
		{"no longer backup", v(1, 11, 1, 0, 11), voices(v(2, 12, 1, 0, 12), v(3, 13, 1, 13, 0)), 13, 12},
		{"the others' order stays: of equal ones self is first", v(5, 12, 1, 0, 0), voices(v(5, 11, 1, 0, 0)), 12, 11},
		{"of equal others the first", v(1, 10, 1, 0, 0), voices(v(5, 12, 1, 0, 0), v(5, 11, 1, 0, 0)), 12, 12},
		{"what others name of self does not count", v(1, 11, 1, 0, 0), voices(v(2, 12, 1, 11, 11), v(3, 13, 1, 11, 11)), 13, 13},
		{"what self names of others does not count", v(1, 11, 1, 12, 12), voices(v(2, 12, 1, 0, 0), v(3, 13, 1, 0, 0)), 13, 13},
		{"the address 0", v(9, 0, 9, 0, 0), voices(v(1, 11, 1, 11, 0)), 11, 0},
		{"the address 0, that names another", v(9, 0, 9, 11, 12), voices(v(1, 11, 1, 11, 0), v(2, 12, 1, 0, 12)), 11, 12},
		{"the address 0 alone", v(9, 0, 9, 0, 0), nil, 0, 0},
		{"one address twice: self is what that address is", v(1, 11, 1, 0, 0), voices(v(2, 11, 1, 11, 0)), 11, 0},
		{"the widest numbers", v(widest, widest, 255, 0, 0), voices(v(widest-1, widest-1, 255, 0, 0)), widest, widest - 1},
	} {
		t.Run(c.what, func(t *testing.T) { wantElect(t, c.self, c.others, c.dr, c.bdr) })
	}
}

// someVoices: every voice of few numbers, so that equal ones, unlike ones and none meet in each field.
func someVoices() []elect.Voice {
	var l []elect.Voice
	for _, addr := range []uint32{0, 11, 12} {
		for _, dr := range []uint32{0, 11, 12} {
			for _, bdr := range []uint32{0, 11, 12} {
				for priority := range uint8(3) {
					l = append(l, v(1, addr, priority, dr, bdr), v(2, addr, priority, dr, bdr))
				}
			}
		}
	}
	return l
}

// TestEachPair holds both calls to their words, for each voice and each two of them.
func TestEachPair(t *testing.T) {
	for _, a := range someVoices() {
		wantWords(t, voices(a))
		for _, b := range someVoices() {
			wantWords(t, voices(a, b))
		}
	}
}

// oneOf: a number out of few, or any.
func oneOf(r *rand.Rand, few ...uint32) uint32 {
	if r.IntN(50) == 0 {
		return r.Uint32()
	}
	return few[r.IntN(len(few))]
}

// anyVoice: few numbers, so that voices are often equal, and often name themselves.
func anyVoice(r *rand.Rand) elect.Voice {
	addr := oneOf(r, 0, 1, 2, 3, 4, 5, widest)
	return elect.Voice{
		Router:   oneOf(r, 0, 1, 2, 3, 1<<31, widest),
		Addr:     addr,
		Priority: uint8(oneOf(r, 0, 1, 2, 127, 128, 255)),
		DR:       oneOf(r, 0, 0, 0, 1, 2, 3, addr),
		BDR:      oneOf(r, 0, 0, 0, 1, 2, 3, addr),
	}
}

// TestMixed holds both calls to their words, for rows of any voices.
func TestMixed(t *testing.T) {
	r := rand.New(rand.NewPCG(12, 1))
	for range 60000 {
		l := make([]elect.Voice, 1+r.IntN(9))
		for i := range l {
			l[i] = anyVoice(r)
		}
		wantWords(t, l)
	}
}

// network: voices of unlike routers and addresses, none of them 0, that name nobody.
func network(r *rand.Rand, size int) []elect.Voice {
	l := make([]elect.Voice, size)
	routers, addrs := r.Perm(99), r.Perm(99)
	for i := range l {
		l[i] = v(uint32(routers[i]+1), uint32(addrs[i]+1), uint8(r.IntN(4)), 0, 0)
	}
	return l
}

// asOf: the one of that number, and the others in their order.
func asOf(l []elect.Voice, i int) (elect.Voice, []elect.Voice) {
	return l[i], slices.Delete(slices.Clone(l), i, i+1)
}

// TestChiefStays: a router that is designated, and heard by all, stays so, whoever comes.
func TestChiefStays(t *testing.T) {
	r := rand.New(rand.NewPCG(12, 2))
	for range 5000 {
		l := network(r, 1+r.IntN(8))
		at := r.IntN(len(l))
		l[at].Priority = uint8(1 + r.IntN(3))
		l[at].DR = l[at].Addr
		for i := range l {
			if r.IntN(3) == 0 {
				l[i].BDR = l[i].Addr
			}
		}
		for i := range l {
			self, others := asOf(l, i)
			if dr, _ := elect.Elect(self, others); dr != l[at].Addr {
				t.Fatalf("P12.2: Elect(%v, %v): %d is designated; it was %d", self, others, dr, l[at].Addr)
			}
		}
		if dr, _ := elect.Once(l); dr != l[at].Addr {
			t.Fatalf("P12.1: Once(%v): %d is designated; it was %d", l, dr, l[at].Addr)
		}
	}
}

// TestSomeoneIsChief: there is a DR, an eligible one, just if some are eligible, whatever they name; and Elect of them all comes to rest with one DR, one BDR.
func TestSomeoneIsChief(t *testing.T) {
	r := rand.New(rand.NewPCG(12, 3))
	for range 5000 {
		l := network(r, 1+r.IntN(8))
		var eligible []uint32
		for i := range l {
			l[i].DR, l[i].BDR = l[r.IntN(len(l))].Addr, l[r.IntN(len(l))].Addr
			if l[i].Priority > 0 {
				eligible = append(eligible, l[i].Addr)
			}
		}
		wantSomeone(t, "P12.1", l, eligible, func() (uint32, uint32) { return elect.Once(l) })
		for i := range l {
			wantSomeone(t, "P12.2", l, eligible, func() (uint32, uint32) { return elect.Elect(asOf(l, i)) })
		}
		settle(l)
		dr, bdr := l[0].DR, l[0].BDR
		for i := range l {
			self, others := asOf(l, i)
			wantElect(t, self, others, dr, bdr)
		}
		if (bdr != 0) != (len(eligible) > 1) || bdr != 0 && bdr == dr {
			t.Fatalf("P12.2: %v is at rest with the DR %d, the BDR %d", l, dr, bdr)
		}
	}
}

func wantSomeone(t *testing.T, what string, l []elect.Voice, eligible []uint32, ask func() (uint32, uint32)) {
	t.Helper()
	dr, bdr := ask()
	if (dr != 0) != (len(eligible) > 0) || dr != 0 && !slices.Contains(eligible, dr) || bdr != 0 && !slices.Contains(eligible, bdr) {
		t.Fatalf("%s: of %v: %d, %d; eligible are %v", what, l, dr, bdr, eligible)
	}
}

// settle: one behind the other, each names what it elects, in more rounds than there are routers.
func settle(l []elect.Voice) {
	for range 2 * len(l) {
		for i := range l {
			l[i].DR, l[i].BDR = elect.Elect(asOf(l, i))
		}
	}
}

// TestArgument: what is handed in is neither changed nor kept, its spare room neither.
func TestArgument(t *testing.T) {
	r := rand.New(rand.NewPCG(12, 4))
	for range 2000 {
		room := make([]elect.Voice, 9)
		for i := range room {
			room[i] = anyVoice(r)
		}
		before := slices.Clone(room)
		part := room[1 : 1+r.IntN(8)]
		for range 2 { // R6: the second time all is answered as the first time
			dr, bdr := once(part)
			wantOnce(t, part, dr, bdr)
			dr, bdr = elected(room[0], part)
			wantElect(t, room[0], part, dr, bdr)
		}
		if !slices.Equal(room, before) {
			t.Fatalf("R5: the argument is %v; it was %v", room, before)
		}
	}
}

// TestLongRow: the last of many voices is asked as the first is.
func TestLongRow(t *testing.T) {
	const many = 1 << 17
	l := make([]elect.Voice, many)
	for i := range l {
		l[i] = v(uint32(i), uint32(i+1), 1, 0, 0)
	}
	wantOnce(t, l, many, many)
	wantElect(t, l[many-1], l[:many-1], many, many-1)
	l[many/2].DR = l[many/2].Addr
	l[0].BDR = l[0].Addr
	wantElect(t, l[many-1], l[:many-1], many/2+1, 1)
}

// TestCallsOfTheChapterAlone: a voice has the chapter's fields, and no calls.
func TestCallsOfTheChapterAlone(t *testing.T) {
	kind := reflect.TypeFor[*elect.Voice]()
	if kind.NumMethod() != 0 {
		t.Errorf("a voice has %d calls; want none", kind.NumMethod())
	}
	var got []string
	for i := range kind.Elem().NumField() {
		got = append(got, kind.Elem().Field(i).Name)
	}
	if want := []string{"Router", "Addr", "Priority", "DR", "BDR"}; !slices.Equal(got, want) {
		t.Errorf("fields of a voice: %v; want %v", got, want)
	}
}
