package digest_test

import (
	"bytes"
	"crypto/md5"
	"encoding/binary"
	"encoding/hex"
	"math/rand/v2"
	"testing"

	"lodestar/digest"
)

// mixed: n bytes of all values, in no plain order; the same ones for the same seed.
func mixed(n int, seed byte) []byte {
	b := make([]byte, n)
	rand.NewChaCha8([32]byte{seed}).Read(b)
	return b
}

// joined: all parts, one behind the other, in memory of their own.
func joined(parts ...[]byte) []byte { return bytes.Join(parts, nil) }

// keyed: the digest of b with a key, as the chapter words it.
func keyed(key, b []byte) [16]byte {
	return md5.Sum(joined(b, joined(key, make([]byte, 16))[:16]))
}

// padded: the padded bytes of b, as the chapter words them.
func padded(b []byte) []byte {
	p := append(bytes.Clone(b), 128)
	for len(p)%64 != 56 {
		p = append(p, 0)
	}
	return binary.LittleEndian.AppendUint64(p, 8*uint64(len(b)))
}

// head: so much of b as a message may show.
func head(b []byte) []byte { return b[:min(len(b), 12)] }

func wantDigest(t *testing.T, what string, got, want [16]byte) {
	t.Helper()
	if got != want {
		t.Errorf("%s: %x; want %x", what, got, want)
	}
}

func wantOf(t *testing.T, what string, b []byte, want [16]byte) {
	t.Helper()
	if got := digest.Of(b); got != want {
		t.Errorf("%s: Of %d bytes, %v ..: %x; want %x", what, len(b), head(b), got, want)
	}
}

func wantKeyed(t *testing.T, what string, key, b []byte, want [16]byte) {
	t.Helper()
	if got := digest.Keyed(key, b); got != want {
		t.Errorf("%s: Keyed with %v of %d bytes, %v ..: %x; want %x", what, key, len(b), head(b), got, want)
	}
}

func wantSame(t *testing.T, what string, a, b []byte, want bool) {
	t.Helper()
	if digest.Same(a, b) != want || digest.Same(b, a) != want {
		t.Errorf("%s: Same of %v and %v: not %t", what, a, b, want)
	}
}

// fromHex: the bytes of a text that is known to be right.
func fromHex(t *testing.T, text string) []byte {
	t.Helper()
	b, err := hex.DecodeString(text)
	if err != nil {
		t.Fatal(err)
	}
	return b
}

func TestExamples(t *testing.T) {
	for _, row := range [][2]string{
		{"", "d41d8cd98f00b204e9800998ecf8427e"},
		{"a", "0cc175b9c0f1b6a831c399e269772661"},
		{"abc", "900150983cd24fb0d6963f7d28e17f72"},
		{"message digest", "f96b697d7cb7938d525a2f31aaf161d0"},
	} {
		wantOf(t, "example: "+row[0], []byte(row[0]), [16]byte(fromHex(t, row[1])))
	}
	none := [16]byte(fromHex(t, "4ae71336e44bf9bf79d2752e234818a5"))
	wantKeyed(t, "example: no key, no bytes", nil, nil, none)
	wantOf(t, "example: sixteen bytes 0", make([]byte, 16), none)
}

// The digest is that of RFC 1321, so the library's own is held against it.
func TestOfEveryLength(t *testing.T) {
	for n := range 400 {
		b := mixed(n, byte(n))
		wantOf(t, "P4.1", b, md5.Sum(b))
		wantOf(t, "P4.1: noughts", make([]byte, n), md5.Sum(make([]byte, n)))
		ones := bytes.Repeat([]byte{255}, n)
		wantOf(t, "P4.1: ones", ones, md5.Sum(ones))
	}
	for _, n := range []int{4095, 4096, 8191, 8192, 8193, 65535, 65536, 1<<20 + 7, 1<<21 + 56} {
		b := mixed(n, byte(n))
		wantOf(t, "P4.1: long", b, md5.Sum(b))
	}
}

func TestOfEdgesOfThePadding(t *testing.T) {
	for _, n := range []int{0, 1, 55, 56, 57, 63, 64, 65, 119, 120, 121, 127, 128, 129} {
		b := mixed(n, 9)
		wantOf(t, "P4.1: where the padding needs a block more, or not", b, md5.Sum(b))
		if digest.Of(b) == digest.Of(padded(b)) {
			t.Errorf("P4.1: %d bytes, and their padded bytes: the same digest", n)
		}
	}
}

func TestLengthBeyond32Bits(t *testing.T) {
	if testing.Short() {
		t.Skip("takes seconds")
	}
	b := make([]byte, 1<<29+3)
	wantOf(t, "P4.1: more than 2^32 bits", b, md5.Sum(b))
}

func TestOfEveryByteAndBitCounts(t *testing.T) {
	b := mixed(130, 4)
	was := digest.Of(b)
	for i := range b {
		for bit := range 8 {
			b[i] ^= 1 << bit
			if digest.Of(b) == was {
				t.Errorf("P4.1: byte %d, bit %d: counts for nothing", i, bit)
			}
			b[i] ^= 1 << bit
		}
	}
}

func TestKeyedIsOfWithTheKeyBehind(t *testing.T) {
	for n := range 140 {
		b := mixed(n, 21)
		for size := range 20 {
			key := mixed(size, 22)
			wantKeyed(t, "P4.2", key, b, keyed(key, b))
		}
	}
	b := mixed(70_000, 23)
	wantKeyed(t, "P4.2: long", []byte("secret"), b, keyed([]byte("secret"), b))
	wantKeyed(t, "P4.2: a long key", b, []byte("x"), keyed(b, []byte("x")))
}

func TestKeyedHangsOnSixteenBytesAlone(t *testing.T) {
	b := []byte("what is signed")
	long := mixed(40, 31)
	want := digest.Keyed(long[:16], b)
	for size := 16; size <= 40; size++ {
		wantKeyed(t, "what follows: more than sixteen bytes", long[:size], b, want)
	}
	for i := range 16 {
		key := bytes.Clone(long)
		key[i] ^= 1
		if digest.Keyed(key, b) == want {
			t.Errorf("P4.2: byte %d of the key counts for nothing", i)
		}
	}
}

func TestKeyWithNoughtsBehind(t *testing.T) {
	b := []byte("what is signed")
	key := append(mixed(3, 33), make([]byte, 20)...)
	for size := 3; size <= len(key); size++ {
		wantKeyed(t, "what follows: a byte 0 behind a key below 16", key[:size], b, digest.Keyed(key[:3], b))
	}
	wantKeyed(t, "what follows: no key", []byte{0}, b, digest.Keyed(nil, b))
	if digest.Keyed(nil, b) == digest.Of(b) {
		t.Error("P4.2: with no key sixteen bytes 0 stand behind")
	}
	if digest.Keyed([]byte{0, 1}, b) == digest.Keyed([]byte{1}, b) {
		t.Error("P4.2: a byte 0 ahead counts")
	}
	spare := append(make([]byte, 0, 16), "key and what is spare"[:16]...)
	wantKeyed(t, "P4.2: a key's spare room is none of it", spare[:3], b, digest.Keyed([]byte("key"), b))
}

func TestSame(t *testing.T) {
	wantSame(t, "P4.3: none", nil, nil, true)
	wantSame(t, "R4: nil and none", nil, []byte{}, true)
	wantSame(t, "P4.3: none and a byte 0", nil, []byte{0}, false)
	wantSame(t, "P4.3: one more", []byte{1}, []byte{1, 0}, false)
	wantSame(t, "P4.3: other order", []byte{1, 2}, []byte{2, 1}, false)
	for _, n := range []int{1, 2, 15, 16, 17, 300} {
		b := mixed(n, 41)
		wantSame(t, "P4.3: the same memory", b, b, true)
		wantSame(t, "P4.3: other memory", b, bytes.Clone(b), true)
		wantSame(t, "P4.3: one less", b, b[:n-1], false)
		for i := range b {
			c := bytes.Clone(b)
			c[i] ^= 1 << (i % 8)
			wantSame(t, "P4.3: one byte is another", b, c, false)
		}
	}
}

// goOn: the digest of b, if its blocks go on behind n bytes whose blocks ended with was.
func goOn(t *testing.T, was [16]byte, n int, b []byte) [16]byte {
	t.Helper()
	held := []byte("md5\x01")
	for i := range 4 {
		held = binary.BigEndian.AppendUint32(held, binary.LittleEndian.Uint32(was[4*i:]))
	}
	held = append(held, make([]byte, 64)...)
	held = binary.BigEndian.AppendUint64(held, uint64(n))
	h := md5.New()
	if err := h.(interface{ UnmarshalBinary([]byte) error }).UnmarshalBinary(held); err != nil {
		t.Fatal(err)
	}
	h.Write(b)
	return [16]byte(h.Sum(nil))
}

func TestNextBlockKnowsTheEndAlone(t *testing.T) {
	for _, n := range []int{0, 5, 55, 56, 64, 100, 200} {
		first := mixed(n, 51)
		ahead := padded(first)
		for _, m := range []int{0, 1, 60, 64, 130} {
			b := mixed(m, 52)
			wantOf(t, "what follows: on from the end of the blocks ahead", joined(ahead, b), goOn(t, digest.Of(first), len(ahead), b))
		}
	}
}

// Two blocks each, unlike in six bytes, that are known to end alike.
const (
	alikeA = "d131dd02c5e6eec4693d9a0698aff95c2fcab58712467eab4004583eb8fb7f8955ad340609f4b30283e488832571415a085125e8f7cdc99fd91dbdf280373c5bd8823e3156348f5bae6dacd436c919c6dd53e2b487da03fd02396306d248cda0e99f33420f577ee8ce54b67080a80d1ec69821bcb6a8839396f9652b6ff72a70"
	alikeB = "d131dd02c5e6eec4693d9a0698aff95c2fcab50712467eab4004583eb8fb7f8955ad340609f4b30283e4888325f1415a085125e8f7cdc99fd91dbd7280373c5bd8823e3156348f5bae6dacd436c919c6dd53e23487da03fd02396306d248cda0e99f33420f577ee8ce54b67080280d1ec69821bcb6a8839396f965ab6ff72a70"
)

func TestBlocksThatEndAlikeStayAlike(t *testing.T) {
	a, b := fromHex(t, alikeA), fromHex(t, alikeB)
	wantSame(t, "P4.3: unlike bytes", a, b, false)
	for n := range 130 {
		more := mixed(n, 61)
		wantOf(t, "what follows: blocks that end alike", joined(a, more), digest.Of(joined(b, more)))
		wantDigest(t, "what follows: blocks that end alike, with a key", digest.Keyed(more, a), digest.Keyed(more, b))
	}
	if digest.Of(a[:64]) == digest.Of(b[:64]) {
		t.Error("P4.1: the first of two blocks, unlike: the same digest")
	}
}

func TestArgumentsStayAsTheyAre(t *testing.T) {
	b, key := mixed(300, 71), mixed(30, 72)
	wasB, wasKey := bytes.Clone(b), bytes.Clone(key)
	for n := range 200 {
		for range 2 {
			wantOf(t, "R6: once and again", b[:n], md5.Sum(wasB[:n]))
			wantKeyed(t, "R6: once and again", key[:n%20], b[:n], keyed(wasKey[:n%20], wasB[:n]))
			digest.Same(b[:n], key[:n%20])
		}
	}
	if !bytes.Equal(b, wasB) || !bytes.Equal(key, wasKey) {
		t.Error("R5: an argument, or its spare room, is changed")
	}
}

func TestKeyAndBytesOfOneMemory(t *testing.T) {
	b := mixed(90, 81)
	for _, at := range []int{0, 10, 52, 60, 64, 70} {
		want := keyed(b[at:at+12], b[:60])
		wantKeyed(t, "R5: the key is a part of the bytes, or of their spare room", b[at:at+12], b[:60], want)
	}
}
