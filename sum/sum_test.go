package sum_test

import (
	"bytes"
	"math"
	"testing"

	"lodestar/api"
	"lodestar/sum"
)

// folded: the folded sum, as the chapter words it, of all words added up at once.
func folded(b []byte) uint64 {
	total := uint64(0)
	for i, x := range b {
		if i%2 == 0 {
			total += 256 * uint64(x)
		} else {
			total += uint64(x)
		}
	}
	for total > 65535 {
		total = total/65536 + total%65536
	}
	return total
}

// two: the two sums of bytes, as the chapter words them.
func two(b []byte) (c0, c1 uint64) {
	for i, x := range b {
		c0 += uint64(x)
		c1 += uint64(len(b)-i) * uint64(x)
	}
	return c0 % 255, c1 % 255
}

func whole(b []byte) bool {
	c0, c1 := two(b)
	return c0 == 0 && c1 == 0
}

// mixed: n bytes of all values, in no plain order; seed makes other ones.
func mixed(n int, seed uint32) []byte {
	b := make([]byte, n)
	for i := range b {
		seed = seed*1664525 + 1013904223
		b[i] = byte(seed >> 24)
	}
	return b
}

// rows: bytes of many lengths, odd ones too, of few values and of many; long ones, whose sums leave 32 bits.
func rows() [][]byte {
	all := [][]byte{nil, {}, {0}, {255}, {1}, {0, 255}, {255, 0}, {254, 1}, {255, 255, 255, 255, 0, 1}}
	for n := range 70 {
		all = append(all, mixed(n, uint32(n)))
	}
	for _, n := range []int{255, 256, 257, 1023, 1024, 1025, 4095, 4096, 4097, 8191, 8192, 8193, 12289, 65535, 65536, 1<<20 + 1} {
		all = append(all, mixed(n, uint32(n)), make([]byte, n))
		for _, x := range []byte{1, 128, 254, 255} {
			all = append(all, bytes.Repeat([]byte{x}, n))
		}
	}
	return all
}

// head: so much of b as a message may show.
func head(b []byte) []byte { return b[:min(len(b), 12)] }

func wantPlain(t *testing.T, what string, b []byte, want uint16) {
	t.Helper()
	if got := sum.Plain(b); got != want {
		t.Errorf("%s: Plain of %d bytes, %v ..: %d; want %d", what, len(b), head(b), got, want)
	}
}

func wantRight(t *testing.T, what string, b []byte, want bool) {
	t.Helper()
	if got := sum.Right(b); got != want {
		t.Errorf("%s: Right of %d bytes, %v ..: %t", what, len(b), head(b), got)
	}
}

func wantWhole(t *testing.T, what string, b []byte, want bool) {
	t.Helper()
	if got := sum.Whole(b); got != want {
		t.Errorf("%s: Whole of %d bytes, %v ..: %t", what, len(b), head(b), got)
	}
}

func wantFletcher(t *testing.T, what string, b []byte, at int, want uint16, e api.Errno) {
	t.Helper()
	if got, err := sum.Fletcher(b, at); got != want || err != e {
		t.Errorf("%s: Fletcher of %d bytes, %v .., at %d: %d, error %d; want %d, error %d", what, len(b), head(b), at, got, err, want, e)
	}
}

func TestExamples(t *testing.T) {
	wantPlain(t, "example 1", nil, 65535)
	wantPlain(t, "example 1", []byte{0, 1}, 65534)
	wantPlain(t, "example 1", []byte{1, 2, 3}, 64509)
	wantPlain(t, "example 1", []byte{255, 255}, 0)
	wantRight(t, "example 2", []byte{255, 255}, true)
	wantRight(t, "example 2", []byte{0, 0}, false)
	wantRight(t, "example 2", []byte{0, 1, 255, 254}, true)
	wantFletcher(t, "example 3", []byte{1, 2, 0, 0}, 2, 63492, api.OK)
	wantFletcher(t, "example 3", []byte{0, 0}, 0, 65535, api.OK)
	wantWhole(t, "example 4", nil, true)
	wantWhole(t, "example 4", []byte{0}, true)
	wantWhole(t, "example 4", []byte{255}, true)
	wantWhole(t, "example 4", []byte{1}, false)
}

func TestPlainAndRightOfManyRows(t *testing.T) {
	for _, b := range rows() {
		f := folded(b)
		wantPlain(t, "P3.1", b, uint16(65535-f))
		wantRight(t, "P3.1", b, f == 65535)
	}
}

func TestSumIsFoldedTillItFits(t *testing.T) {
	wantPlain(t, "P3.1: 65,535 stays", []byte{255, 254, 0, 1}, 0)
	wantPlain(t, "P3.1: 65,536 is folded to 1", []byte{255, 255, 0, 1}, 65534)
	wantPlain(t, "P3.1: 131,071 is folded to 65,536, and that to 1", []byte{255, 255, 255, 255, 0, 1}, 65534)
	wantPlain(t, "P3.1: 131,070 is folded to 65,535", []byte{255, 255, 255, 255}, 0)
	wantRight(t, "P3.1: 131,070 is folded to 65,535", []byte{255, 255, 255, 255}, true)
}

func TestLastWordOfAnOddNumber(t *testing.T) {
	wantPlain(t, "P3.1: one byte is the higher one", []byte{1}, 65535-256)
	wantPlain(t, "P3.1: the last byte is the higher one", []byte{0, 0, 255}, 255)
	wantRight(t, "P3.1: one byte is not enough", []byte{255}, false)
	wantRight(t, "P3.1: an odd number", []byte{0, 255, 255}, true)
	for _, b := range rows() {
		if len(b)%2 == 1 {
			wantPlain(t, "P3.1: a byte 0 behind an odd number", append(bytes.Clone(b), 0), sum.Plain(b))
		}
	}
}

func TestBytesWithTheirPlainAreRight(t *testing.T) {
	for _, b := range rows() {
		for _, at := range []int{0, 2, len(b) / 4 * 2, len(b)/2*2 - 2} {
			if at < 0 || at+2 > len(b) {
				continue
			}
			c := bytes.Clone(b)
			c[at], c[at+1] = 0, 0
			p := sum.Plain(c)
			c[at], c[at+1] = byte(p>>8), byte(p)
			wantRight(t, "what follows: with its Plain", c, true)
			c[at+1] ^= 1
			wantRight(t, "what follows: with another one", c, false)
		}
	}
}

func TestWordsThatChangePlaces(t *testing.T) {
	b := mixed(41, 7)
	for i := 0; i < 40; i += 2 {
		for j := 0; j < i; j += 2 {
			c := bytes.Clone(b)
			c[i], c[i+1], c[j], c[j+1] = b[j], b[j+1], b[i], b[i+1]
			wantPlain(t, "what follows: two words change places", c, sum.Plain(b))
		}
	}
}

func TestFletcherIsTheOnePair(t *testing.T) {
	for n := 2; n <= 9; n++ {
		for at := range n - 1 {
			b := mixed(n, uint32(100*n+at))
			var pairs []uint16
			c := bytes.Clone(b)
			for xy := range 65536 {
				c[at], c[at+1] = byte(xy>>8), byte(xy)
				if c[at] != 0 && c[at+1] != 0 && whole(c) {
					pairs = append(pairs, uint16(xy))
				}
			}
			if len(pairs) != 1 {
				t.Fatalf("P3.2: %d pairs for %v at %d", len(pairs), b, at)
			}
			wantFletcher(t, "P3.2", b, at, pairs[0], api.OK)
		}
	}
}

func TestBytesWithTheirFletcherAreWhole(t *testing.T) {
	for _, b := range rows() {
		for _, at := range []int{0, 1, 14, len(b) / 2, len(b) - 256, len(b) - 257, len(b) - 3, len(b) - 2} {
			if at < 0 || at+2 > len(b) {
				continue
			}
			f, e := sum.Fletcher(b, at)
			c := bytes.Clone(b)
			c[at], c[at+1] = byte(f>>8), byte(f)
			if e != api.OK || c[at] == 0 || c[at+1] == 0 || !whole(c) {
				t.Errorf("P3.2: Fletcher of %d bytes, %v .., at %d: %d, error %d", len(b), head(b), at, f, e)
			}
			wantWhole(t, "what follows: with its Fletcher", c, true)
		}
	}
}

func TestFletcherOfNoughtsIsAllOnes(t *testing.T) {
	for _, x := range []byte{0, 255} {
		for n := 2; n < 600; n += 13 {
			for at := 0; at < n-1; at += 7 {
				wantFletcher(t, "P3.2: 255 in place of 0", bytes.Repeat([]byte{x}, n), at, 65535, api.OK)
			}
		}
	}
}

func TestWhatStandsThereCountsForNothing(t *testing.T) {
	for _, at := range []int{0, 5, 18} {
		b := mixed(20, 3)
		b[at], b[at+1] = 0, 0
		want, _ := sum.Fletcher(b, at)
		for x := range 256 {
			b[at], b[at+1] = byte(x), byte(255-x/2)
			wantFletcher(t, "P3.2: others stand there", b, at, want, api.OK)
		}
	}
}

func TestFletcherRefuses(t *testing.T) {
	for n := range 5 {
		b := mixed(n+2, 1)[:n]
		for _, at := range []int{-1, -2, math.MinInt, n - 1, n, n + 1, math.MaxInt - 1, math.MaxInt} {
			wantFletcher(t, "P3.2: no places", b, at, 0, api.ErrArg)
		}
	}
	wantFletcher(t, "P3.2: nil", nil, 0, 0, api.ErrArg)
	wantFletcher(t, "P3.2: spare room is no place", make([]byte, 1, 9), 0, 0, api.ErrArg)
	wantFletcher(t, "P3.2: the last place but one", []byte{9, 0, 0}, 1, sumAtOne(9), api.OK)
}

// sumAtOne: the Fletcher of x 0 0 at 1, found by trying.
func sumAtOne(x byte) uint16 {
	for xy := range 65536 {
		if xy>>8 != 0 && xy&255 != 0 && whole([]byte{x, byte(xy >> 8), byte(xy)}) {
			return uint16(xy)
		}
	}
	return 0
}

func TestWholeOfManyRows(t *testing.T) {
	for _, b := range rows() {
		wantWhole(t, "P3.3", b, whole(b))
	}
	wantWhole(t, "P3.3: the first sum alone is 0", []byte{1, 254}, false)
	wantWhole(t, "P3.3: the second sum alone is 0", []byte{1, 253}, false)
	wantWhole(t, "P3.3: both are 0", []byte{1, 253, 1}, true)
}

// sealed: n bytes that are Whole, 0 and 255 among them.
func sealed(n int) []byte {
	b := mixed(n, 5)
	b[3], b[4], b[9], b[10] = 0, 255, 255, 0
	f, _ := sum.Fletcher(b, 14)
	b[14], b[15] = byte(f>>8), byte(f)
	return b
}

func TestAChangedByteIsTold(t *testing.T) {
	b := sealed(300)
	for i, was := range b {
		for x := range 256 {
			b[i] = byte(x)
			wantWhole(t, "what follows: a byte is changed", b, int(was)%255 == x%255)
		}
		b[i] = was
	}
}

func TestNeighboursThatChangePlacesAreTold(t *testing.T) {
	b := sealed(300)
	for i := range len(b) - 1 {
		x, y := b[i], b[i+1]
		b[i], b[i+1] = y, x
		wantWhole(t, "what follows: neighbours change places", b, int(x)%255 == int(y)%255)
		b[i], b[i+1] = x, y
	}
}

func TestArgumentsStayAsTheyAre(t *testing.T) {
	b := mixed(9000, 11)
	was := bytes.Clone(b)
	part := b[:8001]
	for range 2 {
		wantPlain(t, "R6: once and again", part, uint16(65535-folded(part)))
		wantRight(t, "R6: once and again", part, false)
		wantWhole(t, "R6: once and again", part, whole(part))
		sum.Fletcher(part, 17)
		sum.Fletcher(part, 7999)
	}
	if !bytes.Equal(b, was) {
		t.Error("R5: an argument, or its spare room, is changed")
	}
}
