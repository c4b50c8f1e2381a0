package prefix_test

import (
	"cmp"
	"math"
	"slices"
	"testing"

	"lodestar/api"
	"lodestar/prefix"
)

// span: the first and the last address that p has, told without masks; false, if p is no prefix.
func span(p api.Prefix) (first, last uint64, is bool) {
	if p.Bits > 32 {
		return 0, 0, false
	}
	size := uint64(1) << (32 - int(p.Bits))
	first = uint64(p.Addr)
	return first, first + size - 1, first%size == 0
}

// some: prefixes of all lengths, near each other and far apart, and what is nearly one.
func some() []api.Prefix {
	var l []api.Prefix
	for _, addr := range []uint32{0, 1, 1 << 31, 0x0A000000, 0x0A010000, 0x0A010200, 0x0A010203, 0x0A800000, math.MaxUint32 - 1, math.MaxUint32} {
		for _, bits := range []uint8{0, 1, 2, 7, 8, 9, 15, 16, 17, 24, 30, 31, 32, 33, 64, 255} {
			l = append(l, api.Prefix{Addr: addr, Bits: bits})
			if bits <= 32 {
				l = append(l, api.Prefix{Addr: uint32(uint64(addr) >> (32 - bits) << (32 - bits)), Bits: bits})
			}
		}
	}
	return l
}

// ends: addresses at and around the ends of what the prefixes have.
func ends(l []api.Prefix) []uint32 {
	var all []uint32
	for _, p := range l {
		first, last, _ := span(p)
		for _, a := range []uint64{first, last} {
			all = append(all, uint32(a-1), uint32(a), uint32(a+1))
		}
	}
	slices.Sort(all)
	return slices.Compact(all)
}

func TestMaskOfEachNumber(t *testing.T) {
	for n := range 256 {
		want := uint32(0)
		for i := range n {
			if n <= 32 {
				want += 1 << (31 - i)
			}
		}
		if got := prefix.Mask(uint8(n)); got != want {
			t.Errorf("P2.1: Mask(%d): %#x; want %#x", n, got, want)
		}
	}
}

func TestBitsOfMasks(t *testing.T) {
	for n := range uint8(33) {
		if got, is := prefix.Bits(prefix.Mask(n)); got != n || !is {
			t.Errorf("P2.1: Bits of the mask of %d: %d, %v", n, got, is)
		}
	}
}

func TestBitsOfWhatIsNoMask(t *testing.T) {
	l := []uint32{1, 2, 3, 0xFF, 0xFF00FF00, 0xFF000001, 0x7F000000, 0x7FFFFFFF, 0xA0000000, 0x40000000}
	for n := range uint8(33) {
		for i := range 32 {
			if m := prefix.Mask(n) ^ 1<<i; i != 31-int(n) && i != 32-int(n) { // these two make the next mask, the one before
				l = append(l, m)
			}
		}
	}
	for _, mask := range l {
		if n, is := prefix.Bits(mask); n != 0 || is {
			t.Errorf("P2.1: Bits(%#x): %d, %v; want 0, false", mask, n, is)
		}
	}
}

func TestMake(t *testing.T) {
	if p, e := prefix.Make(0x0A010203, 8); e != api.OK || p != (api.Prefix{Addr: 0x0A000000, Bits: 8}) {
		t.Errorf("P2.2: Make(10.1.2.3, 8): %v, %d", p, e)
	}
	for _, addr := range ends(some()) {
		for n := range 256 {
			p, e := prefix.Make(addr, uint8(n))
			if n > 32 {
				if e != api.ErrPrefix || p != (api.Prefix{}) {
					t.Fatalf("P2.2: Make(%#x, %d): %v, %d; want ErrPrefix alone", addr, n, p, e)
				}
				continue
			}
			first, last, is := span(p)
			if e != api.OK || int(p.Bits) != n || !is || uint64(addr) < first || uint64(addr) > last {
				t.Fatalf("P2.2: Make(%#x, %d): %v, %d", addr, n, p, e)
			}
		}
	}
}

func TestCheck(t *testing.T) {
	for _, p := range append(some(), api.Prefix{Addr: 0x0A000001, Bits: 8}, api.Prefix{Addr: 0x0A000000, Bits: 33}) {
		want := api.OK
		if _, _, is := span(p); !is {
			want = api.ErrPrefix
		}
		if got := prefix.Check(p); got != want {
			t.Errorf("P2.2: Check(%v): %d; want %d", p, got, want)
		}
	}
}

func TestHas(t *testing.T) {
	l := some()
	all := ends(l)
	for _, p := range l {
		first, last, is := span(p)
		for _, addr := range all {
			want := is && first <= uint64(addr) && uint64(addr) <= last
			if got := prefix.Has(p, addr); got != want {
				t.Fatalf("P2.3: Has(%v, %#x): %v; want %v", p, addr, got, want)
			}
		}
	}
}

func TestCoversAndOverlap(t *testing.T) {
	l := some()
	for _, p := range l {
		first, last, is := span(p)
		for _, q := range l {
			from, to, too := span(q)
			covers := is && too && first <= from && to <= last
			overlap := is && too && first <= to && from <= last
			if got := prefix.Covers(p, q); got != covers {
				t.Fatalf("P2.3: Covers(%v, %v): %v; want %v", p, q, got, covers)
			}
			if got := prefix.Overlap(p, q); got != overlap {
				t.Fatalf("P2.3: Overlap(%v, %v): %v; want %v", p, q, got, overlap)
			}
		}
	}
}

func TestSetsOfTheExamples(t *testing.T) {
	ten, one := api.Prefix{Addr: 0x0A000000, Bits: 8}, api.Prefix{Addr: 0x0A010000, Bits: 16}
	low, high := api.Prefix{Addr: 0x0A000000, Bits: 9}, api.Prefix{Addr: 0x0A800000, Bits: 9}
	if !prefix.Covers(ten, one) || prefix.Covers(one, ten) {
		t.Error("P2.3: 10.0.0.0/8 covers 10.1.0.0/16, not the other way round")
	}
	if !prefix.Overlap(one, ten) || prefix.Overlap(low, high) {
		t.Error("P2.3: 10.1.0.0/16 and 10.0.0.0/8 overlap, the halves of 10.0.0.0/8 do not")
	}
}

func TestWhatFollowsOfSets(t *testing.T) {
	l := some()
	for _, p := range l {
		if prefix.Covers(p, p) != (prefix.Check(p) == api.OK) {
			t.Errorf("What follows: %v covers itself just if it is a prefix", p)
		}
		for _, q := range l {
			if prefix.Overlap(p, q) != (prefix.Covers(p, q) || prefix.Covers(q, p)) {
				t.Errorf("What follows: %v, %v overlap just if one covers the other one", p, q)
			}
			if prefix.Covers(p, q) && p.Bits > q.Bits {
				t.Errorf("What follows: %v covers %v, with more bits", p, q)
			}
		}
	}
}

func TestCompareOfAnyTwo(t *testing.T) {
	l := some()
	for _, p := range l {
		for _, q := range l {
			want := cmp.Compare(uint64(p.Addr)<<8+uint64(p.Bits), uint64(q.Addr)<<8+uint64(q.Bits))
			if got := prefix.Compare(p, q); got != want {
				t.Fatalf("P2.4: Compare(%v, %v): %d; want %d", p, q, got, want)
			}
		}
	}
}

func TestCompareLooksAtTheAddressFirst(t *testing.T) {
	p, q := api.Prefix{Addr: 1, Bits: 255}, api.Prefix{Addr: math.MaxUint32, Bits: 0}
	if prefix.Compare(p, q) != -1 || prefix.Compare(q, p) != 1 || prefix.Compare(p, p) != 0 {
		t.Error("P2.4: addresses are numbers without a sign, and decide ahead of the bits")
	}
}

func TestBestOfTheExamples(t *testing.T) {
	l := []api.Prefix{{}, {Addr: 0x0A000000, Bits: 8}, {Addr: 0x0A010000, Bits: 16}}
	for _, c := range []struct {
		l    []api.Prefix
		addr uint32
		want int
	}{
		{l, 0x0A010203, 2}, {l, 0x0A020000, 1}, {l, 0x0B000000, 0}, {l[1:2], 0x0B000000, -1},
		{nil, 0, -1}, {[]api.Prefix{}, 0, -1},
	} {
		if got := prefix.Best(c.l, c.addr); got != c.want {
			t.Errorf("P2.5: Best(%v, %#x): %d; want %d", c.l, c.addr, got, c.want)
		}
	}
}

func TestBestTakesTheFirstOfSeveral(t *testing.T) {
	ten, one := api.Prefix{Addr: 0x0A000000, Bits: 8}, api.Prefix{Addr: 0x0A010000, Bits: 16}
	for _, c := range []struct {
		l    []api.Prefix
		want int
	}{
		{[]api.Prefix{one, one, ten}, 0}, {[]api.Prefix{ten, one, one}, 1}, {[]api.Prefix{one, ten, ten}, 0}, {[]api.Prefix{ten, ten}, 0},
	} {
		if got := prefix.Best(c.l, 0x0A010203); got != c.want {
			t.Errorf("P2.5: Best(%v): %d; want %d", c.l, got, c.want)
		}
	}
}

func TestBestPassesByWhatIsNoPrefix(t *testing.T) {
	bad := []api.Prefix{{Addr: 0x0A010203, Bits: 33}, {Addr: 0x0A010203, Bits: 255}, {Addr: 0x0A010203, Bits: 31}, {Addr: 0, Bits: 33}}
	if got := prefix.Best(bad, 0x0A010203); got != -1 {
		t.Errorf("P2.5: what is no prefix has nothing: %d", got)
	}
	if got := prefix.Best(append(bad, api.Prefix{}), 0x0A010203); got != len(bad) {
		t.Errorf("P2.5: the one prefix behind what is none: %d; want %d", got, len(bad))
	}
}

func TestBestHangsOnThoseThatHaveTheAddress(t *testing.T) {
	l := some()
	for _, addr := range ends(l) {
		var have []api.Prefix
		most := -1
		for _, p := range l {
			if first, last, is := span(p); is && first <= uint64(addr) && uint64(addr) <= last {
				have, most = append(have, p), max(most, int(p.Bits))
			}
		}
		best, alone := prefix.Best(l, addr), prefix.Best(have, addr)
		if l[best] != have[alone] || int(l[best].Bits) != most || slices.Index(l, l[best]) != best {
			t.Errorf("P2.5, What follows: of all %d, of those that have %#x %d", best, addr, alone)
		}
	}
}

func TestBestLeavesItsList(t *testing.T) {
	l := some()
	was := slices.Clone(l)
	prefix.Best(l[:9], 0x0A010203)
	if !slices.Equal(l, was) {
		t.Error("R5: Best changes its list")
	}
}
