package auth_test

import (
	"bytes"
	"crypto/md5"
	"math"
	"math/rand/v2"
	"slices"
	"testing"

	"lodestar/api"
	"lodestar/auth"
	"lodestar/packet"
)

const far = math.MaxUint32

// two, four: numbers of so many bytes, the highest first.
func two(v uint16) []byte  { return []byte{byte(v >> 8), byte(v)} }
func four(v uint32) []byte { return append(two(uint16(v>>16)), two(uint16(v))...) }

// number: of the bytes, the highest first.
func number(b []byte) int {
	v := 0
	for _, x := range b {
		v = 256*v + int(x)
	}
	return v
}

// wordSum: that of the words of a packet's bytes without Data's, folded.
func wordSum(b []byte) int {
	v := 0
	for i, x := range slices.Concat(b[:16], b[24:]) {
		v += int(x) << (8 * (1 - i%2))
	}
	for v > 65535 {
		v = v/65536 + v%65536
	}
	return v
}

// resummed: b with the sum that is right for it.
func resummed(b []byte) []byte {
	b = bytes.Clone(b)
	b[12], b[13] = 0, 0
	copy(b[12:], two(uint16(65535-wordSum(b))))
	return b
}

// filled: the bytes, with bytes 0 behind them, up to n.
func filled(b []byte, n int) []byte {
	row := make([]byte, n)
	copy(row, b)
	return row
}

// keyed: the digest of b with a secret behind it.
func keyed(secret, b []byte) []byte {
	d := md5.Sum(slices.Concat(b, filled(secret, 16)))
	return d[:]
}

// key: of a Kind, sent with from 0 to 99, taken from 0 to 99.
func key(id uint8, kind uint16, secret string) api.AuthKey {
	return api.AuthKey{ID: id, Kind: kind, Secret: []byte(secret), SendUntil: 99, TakeUntil: 99}
}

// fits: may the key be, by the document's words?
func fits(k api.AuthKey) bool {
	most := map[uint16]int{1: 8, 2: 16}[k.Kind]
	if len(k.Secret) == 0 || len(k.Secret) > most {
		return false
	}
	return k.SendFrom >= 0 && k.SendFrom <= k.SendUntil && k.TakeFrom >= 0 && k.TakeFrom <= k.TakeUntil
}

// chainVerdict: what Check must answer, by the words.
func chainVerdict(l []api.AuthKey) (api.Errno, int) {
	if len(l) > 16 {
		return api.ErrMany, 16
	}
	ids := map[uint8]int{}
	for i, k := range l {
		if !fits(k) || k.Kind != l[0].Kind {
			return api.ErrKey, i
		}
		if ids[k.ID]++; ids[k.ID] > 1 {
			return api.ErrTwice, i
		}
	}
	return api.OK, 0
}

// chosen: what Choose must answer, by the words.
func chosen(l []api.AuthKey, now int) int {
	var in []int
	for i, k := range l {
		if k.SendFrom <= now && now <= k.SendUntil {
			in = append(in, i)
		}
	}
	if len(in) == 0 {
		return -1
	}
	slices.SortStableFunc(in, func(a, b int) int {
		if l[a].SendFrom != l[b].SendFrom {
			if l[a].SendFrom > l[b].SendFrom {
				return -1
			}
			return 1
		}
		return int(l[b].ID) - int(l[a].ID)
	})
	return in[0]
}

// lengthVerdict: what packet.Length must answer.
func lengthVerdict(b []byte) api.Errno {
	switch {
	case len(b) < 24:
		return api.ErrShort
	case b[0] != 2:
		return api.ErrVersion
	case b[1] < 1 || b[1] > 5:
		return api.ErrType
	case number(b[2:4]) < 24 || number(b[2:4]) > len(b):
		return api.ErrLength
	}
	return api.OK
}

// signed: what Sign must answer, by the words.
func signed(b []byte, l []api.AuthKey, now int, seq uint32) ([]byte, api.Errno) {
	switch e := lengthVerdict(b); {
	case e != api.OK:
		return nil, e
	case len(b) > number(b[2:4]):
		return nil, api.ErrLength
	case number(b[14:16]) != 0:
		return nil, api.ErrAuth
	case wordSum(b) != 65535:
		return nil, api.ErrSum
	case len(l) == 0:
		return b, api.OK
	}
	i := chosen(l, now)
	if e, _ := chainVerdict(l); e != api.OK || i < 0 {
		return nil, api.ErrKey
	}
	if l[i].Kind == 1 {
		return resummed(slices.Concat(b[:14], []byte{0, 1}, filled(l[i].Secret, 8), b[24:])), api.OK
	}
	row := slices.Concat(b[:12], []byte{0, 0, 0, 2, 0, 0, l[i].ID, 16}, four(seq), b[24:])
	return append(row, keyed(l[i].Secret, row)...), api.OK
}

// opened: what Open must answer, by the words.
func opened(b []byte, l []api.AuthKey, now int) (uint32, int, api.Errno) {
	if e := lengthVerdict(b); e != api.OK {
		return 0, 0, e
	}
	want := 0
	if len(l) > 0 {
		if e, _ := chainVerdict(l); e != api.OK {
			return 0, 0, api.ErrKey
		}
		want = int(l[0].Kind)
	}
	n := number(b[2:4])
	switch {
	case number(b[14:16]) != want:
		return 0, 0, api.ErrAuth
	case want == 2 && (b[16] != 0 || b[17] != 0 || b[19] != 16):
		return 0, 0, api.ErrField
	case want == 2 && len(b) != n+16, want < 2 && len(b) != n:
		return 0, 0, api.ErrLength
	case want < 2 && wordSum(b) != 65535:
		return 0, 0, api.ErrSum
	case want == 0:
		return 0, n, api.OK
	}
	for _, k := range l {
		if now < k.TakeFrom || now > k.TakeUntil {
			continue
		}
		if want == 1 && bytes.Equal(filled(k.Secret, 8), b[16:24]) {
			return 0, n, api.OK
		}
		if want == 2 && k.ID == b[18] && bytes.Equal(keyed(k.Secret, b[:n]), b[n:]) {
			return uint32(number(b[20:24])), n, api.OK
		}
	}
	return 0, 0, api.ErrKey
}

func wantCheck(t *testing.T, what string, l []api.AuthKey, want api.Errno, at int) {
	t.Helper()
	if e, n := auth.Check(l); e != want || n != at {
		t.Errorf("P8.1: %s: Check: %d, %d; want %d, %d", what, e, n, want, at)
	}
}

func wantChoose(t *testing.T, what string, l []api.AuthKey, now int, want int) {
	t.Helper()
	if got := auth.Choose(l, now); got != want {
		t.Errorf("P8.2: %s: Choose at %d: %d; want %d", what, now, got, want)
	}
}

// wantSign asks for what the words say.
func wantSign(t *testing.T, what string, b []byte, l []api.AuthKey, now int, seq uint32) {
	t.Helper()
	want, e := signed(b, l, now, seq)
	got, f := auth.Sign(b, l, now, seq)
	if f != e || !bytes.Equal(got, want) {
		t.Errorf("P8.3: %s: Sign at %d: %v, %d; want %v, %d", what, now, head(got), f, head(want), e)
	}
}

// wantOpen asks for what the words say.
func wantOpen(t *testing.T, what string, b []byte, l []api.AuthKey, now int) {
	t.Helper()
	seq, n, e := opened(b, l, now)
	if s, m, f := auth.Open(b, l, now); s != seq || m != n || f != e {
		t.Errorf("P8.4: %s: Open of %v at %d: %d, %d, %d; want %d, %d, %d", what, head(b), now, s, m, f, seq, n, e)
	}
}

func wantSignError(t *testing.T, what string, b []byte, l []api.AuthKey, now int, want api.Errno) {
	t.Helper()
	if row, e := auth.Sign(b, l, now, 9); e != want || len(row) != 0 {
		t.Errorf("P8.3: %s: Sign at %d: %v, %d; want none, %d", what, now, head(row), e, want)
	}
	wantSign(t, what, b, l, now, 9)
}

func wantOpenError(t *testing.T, what string, b []byte, l []api.AuthKey, now int, want api.Errno) {
	t.Helper()
	if seq, n, e := auth.Open(b, l, now); e != want || seq != 0 || n != 0 {
		t.Errorf("P8.4: %s: Open of %v at %d: %d, %d, %d; want %d", what, head(b), now, seq, n, e, want)
	}
	wantOpen(t, what, b, l, now)
}

func wantOpened(t *testing.T, what string, b []byte, l []api.AuthKey, now int, seq uint32, n int) {
	t.Helper()
	if s, m, e := auth.Open(b, l, now); s != seq || m != n || e != api.OK {
		t.Errorf("P8.4: %s: Open of %v at %d: %d, %d, %d; want %d, %d", what, head(b), now, s, m, e, seq, n)
	}
	wantOpen(t, what, b, l, now)
}

// head: of many bytes the first, to be told.
func head(b []byte) []byte { return b[:min(len(b), 60)] }

func made(t *testing.T, b []byte, l []api.AuthKey, now int, seq uint32) []byte {
	t.Helper()
	row, e := auth.Sign(b, l, now, seq)
	if e != api.OK {
		t.Fatalf("P8.3: Sign of %v at %d: %d", head(b), now, e)
	}
	return row
}

// changed: b with another byte.
func changed(b []byte, at int, to byte) []byte {
	b = bytes.Clone(b)
	b[at] = to
	return b
}

// ack: of router 1, without heads.
func ack() []byte {
	return []byte{2, 5, 0, 24, 0, 0, 0, 1, 0, 0, 0, 0, 253, 225, 0, 0, 0, 0, 0, 0, 0, 0, 0, 0}
}

// framed: a packet that is not signed, with these bytes behind its head, whatever they say.
func framed(kind uint8, router, area uint32, data [8]byte, behind ...byte) []byte {
	return resummed(slices.Concat([]byte{2, kind}, two(uint16(24+len(behind))), four(router), four(area), make([]byte, 4), data[:], behind))
}

// some: packets that are not signed, the edges among them.
func some(t *testing.T) [][]byte {
	hello, e := packet.Encode(api.Packet{Type: 1, Router: 0x01020304, Area: 5, Hello: api.HelloBody{Mask: 0xFFFFFF00, Interval: 10, Dead: 40, Neighbors: []uint32{7}}}, packet.Auth{})
	if e != api.OK {
		t.Fatalf("P7.1: %d", e)
	}
	return [][]byte{
		ack(),
		hello,
		framed(1, far, far, [8]byte{}),
		framed(2, 0, 0, [8]byte{255, 1, 2, 3, 4, 5, 6, 255}),
		framed(3, 1, 2, [8]byte{}, 9),
		framed(4, 1, 2, [8]byte{0, 0, 7, 16, 0, 0, 0, 9}, 1, 2, 3),
		framed(5, 3, 0, [8]byte{}, bytes.Repeat([]byte{250, 251, 252}, 100)...),
		framed(5, 3, 0, [8]byte{}, bytes.Repeat([]byte{1, 2, 3}, 65511/3)...), // 65,535 bytes in all
	}
}

// chains: that may be, of each Kind.
func chains() [][]api.AuthKey {
	later := key(2, 2, "later")
	later.SendFrom = 50
	return [][]api.AuthKey{
		nil,
		{},
		{key(7, 1, "ab")},
		{key(0, 1, "12345678"), key(255, 1, "x")},
		{key(7, 2, "ab")},
		{key(0, 2, "0123456789abcdef")},
		{key(255, 2, "\x00"), later, key(1, 2, "123456789")},
	}
}

func TestExamples(t *testing.T) {
	l := []api.AuthKey{key(7, 1, "ab")}
	b := made(t, ack(), l, 5, 0)
	if len(b) != 24 || !bytes.Equal(b[14:], []byte{0, 1, 97, 98, 0, 0, 0, 0, 0, 0}) {
		t.Errorf("P8.3: %v; want Kind 1, and the password", b)
	}
	wantOpened(t, "at 5", b, l, 5, 0, 24)
	wantOpenError(t, "at 100", b, l, 100, api.ErrKey)
	wantSignError(t, "at 100", ack(), l, 100, api.ErrKey)
	wantOpenError(t, "what is not signed", ack(), l, 5, api.ErrAuth)
	wantOpenError(t, "without keys", b, nil, 5, api.ErrAuth)
	l = []api.AuthKey{key(7, 2, "ab")}
	b = made(t, ack(), l, 5, 9)
	if len(b) != 40 || !bytes.Equal(b[12:24], []byte{0, 0, 0, 2, 0, 0, 7, 16, 0, 0, 0, 9}) {
		t.Errorf("P8.3: %v; want 40 bytes, Kind 2, 0 0 7 16 0 0 0 9", b)
	}
	wantOpened(t, "a digest", b, l, 5, 9, 24)
	wantOpenError(t, "the last byte otherwise", changed(b, 39, b[39]+1), l, 5, api.ErrKey)
	wantOpenError(t, "without the last byte", b[:39], l, 5, api.ErrLength)
	wantCheck(t, "one ID", []api.AuthKey{key(7, 1, "a"), key(7, 1, "b")}, api.ErrTwice, 1)
	wantCheck(t, "two Kinds", []api.AuthKey{key(1, 1, "a"), key(2, 2, "b")}, api.ErrKey, 1)
	wantCheck(t, "nine bytes", []api.AuthKey{key(1, 1, "123456789")}, api.ErrKey, 0)
}

func TestCheckSecrets(t *testing.T) {
	for kind, most := range map[uint16]int{1: 8, 2: 16, 0: 0, 3: 0, 4: 0, 257: 0, 258: 0, 65535: 0} {
		for n := range 40 {
			k := key(3, kind, string(make([]byte, n)))
			want := api.ErrKey
			if 1 <= n && n <= most {
				want = api.OK
			}
			wantCheck(t, "one key", []api.AuthKey{k}, want, 0)
		}
	}
	wantCheck(t, "a secret that is nil", []api.AuthKey{{Kind: 1}}, api.ErrKey, 0)
}

func TestCheckSpans(t *testing.T) {
	for _, c := range []struct {
		from, until int
		want        api.Errno
	}{{0, 0, api.OK}, {0, 1, api.OK}, {1, 1, api.OK}, {1, 0, api.ErrKey}, {-1, 0, api.ErrKey}, {-1, -1, api.ErrKey}, {0, -1, api.ErrKey}, {5, 4, api.ErrKey},
		{0, math.MaxInt, api.OK}, {math.MaxInt, math.MaxInt, api.OK}, {math.MinInt, math.MaxInt, api.ErrKey}, {math.MaxInt, math.MinInt, api.ErrKey}} {
		k := key(1, 1, "a")
		k.SendFrom, k.SendUntil = c.from, c.until
		wantCheck(t, "when it is sent with", []api.AuthKey{k}, c.want, 0)
		k = key(1, 2, "a")
		k.TakeFrom, k.TakeUntil = c.from, c.until
		wantCheck(t, "when it is taken", []api.AuthKey{k}, c.want, 0)
	}
}

func TestCheckCounts(t *testing.T) {
	wantCheck(t, "nil", nil, api.OK, 0)
	wantCheck(t, "none", []api.AuthKey{}, api.OK, 0)
	var l []api.AuthKey
	for i := range 16 {
		l = append(l, key(uint8(255-17*i), 2, "a"))
		wantCheck(t, "up to sixteen", l, api.OK, 0)
	}
	wantCheck(t, "seventeen", append(slices.Clone(l), key(1, 2, "a")), api.ErrMany, 16)
	wantCheck(t, "many that may not be", make([]api.AuthKey, 17), api.ErrMany, 16)
	wantCheck(t, "many of one ID", slices.Repeat(l[:1], 300), api.ErrMany, 16)
	wantCheck(t, "sixteen of one ID", slices.Repeat(l[:1], 16), api.ErrTwice, 1)
	for i := range l {
		wrong := slices.Clone(l)
		wrong[i].Secret = nil
		wantCheck(t, "one that may not be", wrong, api.ErrKey, i)
		wrong = slices.Clone(l)
		wrong[i].Kind = 1
		wantCheck(t, "one of another Kind", wrong, api.ErrKey, max(i, 1))
		for j := range i {
			wrong = slices.Clone(l)
			wrong[i].ID = wrong[j].ID
			wantCheck(t, "two of one ID", wrong, api.ErrTwice, i)
		}
	}
}

// TestCheckOrder: key by key, and of one key ErrKey ahead of ErrTwice.
func TestCheckOrder(t *testing.T) {
	bad := key(7, 1, "")
	a, b := key(7, 1, "a"), key(8, 1, "b")
	wantCheck(t, "one key with both faults", []api.AuthKey{a, bad}, api.ErrKey, 1)
	wantCheck(t, "another Kind and its ID", []api.AuthKey{a, key(7, 2, "a")}, api.ErrKey, 1)
	wantCheck(t, "the second twice, the third bad", []api.AuthKey{a, a, bad}, api.ErrTwice, 1)
	wantCheck(t, "the second bad, the third twice", []api.AuthKey{a, bad, a}, api.ErrKey, 1)
	wantCheck(t, "the third twice, the fourth too", []api.AuthKey{a, b, a, b}, api.ErrTwice, 2)
	wantCheck(t, "the first bad, of which others have the Kind", []api.AuthKey{key(1, 3, "a"), key(2, 3, "a")}, api.ErrKey, 0)
}

// mixedKey: one that may be more often than not, of few IDs, secrets and times, so that they meet.
func mixedKey(r *rand.Rand, kind uint16) api.AuthKey {
	from, take := r.IntN(6), r.IntN(6)
	k := api.AuthKey{ID: uint8(r.IntN(24)), Kind: kind, Secret: bytes.Repeat([]byte{byte(r.IntN(3))}, 1+r.IntN(3)), SendFrom: from, SendUntil: from + r.IntN(6), TakeFrom: take, TakeUntil: take + r.IntN(6)}
	switch r.IntN(60) {
	case 0:
		k.Kind = uint16(r.IntN(4))
	case 1:
		k.Secret = make([]byte, r.IntN(20))
	case 2:
		k.SendFrom = r.IntN(20) - 4
	case 3:
		k.TakeFrom = r.IntN(20) - 4
	}
	return k
}

func mixedChain(r *rand.Rand) []api.AuthKey {
	var l []api.AuthKey
	kind := uint16(1 + r.IntN(2))
	for range r.IntN(7) {
		l = append(l, mixedKey(r, kind))
	}
	return l
}

func TestCheckMixed(t *testing.T) {
	r := rand.New(rand.NewPCG(8, 1))
	for range 20000 {
		l := mixedChain(r)
		e, n := chainVerdict(l)
		wantCheck(t, "a mixed chain", l, e, n)
	}
}

func TestChooseTimes(t *testing.T) {
	k := key(1, 1, "a")
	k.SendFrom, k.SendUntil = 10, 20
	k.TakeFrom, k.TakeUntil = 0, 5
	l := []api.AuthKey{k}
	for now, want := range map[int]int{math.MinInt: -1, -1: -1, 0: -1, 5: -1, 9: -1, 10: 0, 11: 0, 20: 0, 21: -1, math.MaxInt: -1} {
		wantChoose(t, "from 10 to 20", l, now, want)
	}
	wantChoose(t, "none", nil, 0, -1)
	wantChoose(t, "none", []api.AuthKey{}, 0, -1)
	l[0].SendFrom, l[0].SendUntil = math.MinInt, math.MaxInt
	for _, now := range []int{math.MinInt, 0, math.MaxInt} {
		wantChoose(t, "at all times", l, now, 0)
	}
}

func TestChooseOrder(t *testing.T) {
	from := func(id uint8, from, until int) api.AuthKey {
		return api.AuthKey{ID: id, SendFrom: from, SendUntil: until}
	}
	for what, c := range map[string]struct {
		l    []api.AuthKey
		want int
	}{
		"the greatest SendFrom":                  {[]api.AuthKey{from(9, 1, 99), from(1, 5, 99), from(8, 3, 99)}, 1},
		"though its ID is the least":             {[]api.AuthKey{from(0, 5, 99), from(255, 4, 99)}, 0},
		"of those at that time":                  {[]api.AuthKey{from(1, 11, 99), from(2, 4, 9), from(3, 2, 10)}, 2},
		"the greatest ID of several":             {[]api.AuthKey{from(4, 5, 99), from(200, 5, 99), from(9, 5, 99)}, 1},
		"whenever they end":                      {[]api.AuthKey{from(4, 5, 99), from(5, 5, 10), from(3, 5, 1000)}, 1},
		"the first of several":                   {[]api.AuthKey{from(1, 9, 99), from(4, 10, 10), from(4, 10, 99), from(4, 10, 11)}, 1},
		"a SendFrom below 0":                     {[]api.AuthKey{from(1, -9, 99), from(1, -3, 99), from(9, -4, 99)}, 1},
		"far numbers":                            {[]api.AuthKey{from(1, math.MinInt, math.MaxInt), from(0, 10, math.MaxInt)}, 1},
		"a span that ends ahead of its begin":    {[]api.AuthKey{from(9, 10, 9), from(1, 0, 99)}, 1},
		"more keys than a chain has that may be": {append(slices.Repeat([]api.AuthKey{from(1, 1, 99)}, 40), from(1, 2, 99)), 40},
	} {
		wantChoose(t, what, c.l, 10, c.want)
	}
}

func TestChooseMixed(t *testing.T) {
	r := rand.New(rand.NewPCG(8, 2))
	for range 20000 {
		l := mixedChain(r)
		now := r.IntN(14) - 2
		wantChoose(t, "a mixed chain", l, now, chosen(l, now))
	}
}

func TestSign(t *testing.T) {
	for _, b := range some(t) {
		for _, l := range chains() {
			for _, now := range []int{0, 49, 50, 99, 100} {
				for _, seq := range []uint32{0, 0x01020304, far} {
					wantSign(t, "what may be", b, l, now, seq)
				}
			}
		}
	}
}

// TestSignSums: the sum is put right wherever the words' sum ends.
func TestSignSums(t *testing.T) {
	l := []api.AuthKey{key(1, 1, "\xff\xff")}
	for router := range uint32(1 << 16) {
		b := framed(5, router, 0, [8]byte{})
		row := made(t, b, l, 0, 0)
		if !packet.Right(row) || wordSum(row) != 65535 {
			t.Fatalf("P8.3: router %d: the sum of %v is not right", router, row)
		}
		if s := number(row[12:14]); s == 65535 {
			t.Fatalf("P8.3: router %d: the sum is all ones", router)
		}
	}
}

// TestSignOrder: all is wrong, and is healed one after the other.
func TestSignOrder(t *testing.T) {
	wrong := []api.AuthKey{key(1, 1, "")}
	never := []api.AuthKey{key(1, 1, "a")}
	b := slices.Concat([]byte{3, 6, 0, 23}, make([]byte, 10), []byte{1, 0}, make([]byte, 9))
	wantSignError(t, "too short", b[:23], wrong, 100, api.ErrShort)
	wantSignError(t, "nothing", nil, wrong, 100, api.ErrShort)
	wantSignError(t, "version 3", b, wrong, 100, api.ErrVersion)
	b[0] = 2
	wantSignError(t, "type 6", b, wrong, 100, api.ErrType)
	b[1] = 5
	wantSignError(t, "length 23", b, wrong, 100, api.ErrLength)
	b[3] = 26
	wantSignError(t, "length 26", b, wrong, 100, api.ErrLength)
	b[3] = 24
	wantSignError(t, "a byte more", b, wrong, 100, api.ErrLength)
	b = b[:24]
	for _, kind := range []byte{0, 1, 2, 3, 255} {
		c := changed(b, 15, kind)
		wantSignError(t, "signed", c, wrong, 100, api.ErrAuth)
		wantSignError(t, "signed", resummed(c), wrong, 100, api.ErrAuth)
		wantSignError(t, "signed, without keys", resummed(c), nil, 100, api.ErrAuth)
	}
	b[14] = 0
	wantSignError(t, "a sum", b, wrong, 100, api.ErrSum)
	wantSignError(t, "a sum, without keys", b, nil, 100, api.ErrSum)
	b = resummed(b)
	wantSignError(t, "a chain that may not be", b, wrong, 5, api.ErrKey)
	wantSignError(t, "many keys", b, slices.Repeat(never, 17), 5, api.ErrKey)
	wantSignError(t, "an ID twice", b, slices.Repeat(never, 2), 5, api.ErrKey)
	wantSignError(t, "none at that time", b, never, 100, api.ErrKey)
	wantSignError(t, "none at that time", b, never, -1, api.ErrKey)
	made(t, b, never, 99, 0)
}

// TestSignAsksSendTimesAlone: a key signs that is not taken then.
func TestSignAsksSendTimesAlone(t *testing.T) {
	for kind := range uint16(2) {
		k := key(7, kind+1, "ab")
		k.TakeFrom, k.TakeUntil = 10, 20
		b := made(t, ack(), []api.AuthKey{k}, 5, 0)
		wantOpenError(t, "not taken yet", b, []api.AuthKey{k}, 9, api.ErrKey)
		wantOpened(t, "from then on", b, []api.AuthKey{k}, 10, 0, 24)
		k.SendFrom, k.SendUntil = 50, 60
		wantOpened(t, "up to then", b, []api.AuthKey{k}, 20, 0, 24)
		wantOpenError(t, "no more", b, []api.AuthKey{k}, 21, api.ErrKey)
		wantSignError(t, "taken, and not sent with", ack(), []api.AuthKey{k}, 15, api.ErrKey)
	}
}

// TestOpenWithoutKeys: what is not signed, whatever Data is.
func TestOpenWithoutKeys(t *testing.T) {
	for _, b := range some(t) {
		wantOpened(t, "not signed", b, nil, 0, 0, len(b))
		wantOpened(t, "not signed", b, []api.AuthKey{}, math.MinInt, 0, len(b))
		wantOpenError(t, "signed, a byte more, a sum", append(changed(b, 15, 1), 0), nil, 0, api.ErrAuth)
		wantOpenError(t, "a byte more, a sum", append(changed(b, 12, b[12]+1), 0), nil, 0, api.ErrLength)
		wantOpenError(t, "a sum", changed(b, 12, b[12]+1), nil, 0, api.ErrSum)
		for _, kind := range []uint16{1, 2, 3, 255, 256, 65535} {
			c := bytes.Clone(b)
			copy(c[14:], two(kind))
			wantOpenError(t, "a Kind", resummed(c), nil, 0, api.ErrAuth)
		}
	}
}

// TestOpenLengthFirst: what packet.Length says is ahead of what the chain says.
func TestOpenLengthFirst(t *testing.T) {
	for _, l := range append(chains(), []api.AuthKey{{}}, make([]api.AuthKey, 17)) {
		b := slices.Concat([]byte{3, 6, 0, 23}, make([]byte, 20))
		wantOpenError(t, "nothing", nil, l, 0, api.ErrShort)
		wantOpenError(t, "too short", b[:23], l, 0, api.ErrShort)
		wantOpenError(t, "version 3", b, l, 0, api.ErrVersion)
		b[0] = 2
		wantOpenError(t, "type 6", b, l, 0, api.ErrType)
		b[1] = 5
		wantOpenError(t, "length 23", b, l, 0, api.ErrLength)
		b[3] = 25
		wantOpenError(t, "length 25", b, l, 0, api.ErrLength)
	}
}

// TestOpenPlainOrder: all is wrong, and is healed one after the other.
func TestOpenPlainOrder(t *testing.T) {
	b := append(ack(), 0)
	b[12]++
	l := []api.AuthKey{key(7, 1, "ab"), key(7, 1, "cd")}
	wantOpenError(t, "a chain that may not be", b, l, 100, api.ErrKey)
	wantOpenError(t, "many keys", b, slices.Repeat(l[:1], 17), 100, api.ErrKey)
	l = l[:1]
	for _, kind := range []uint16{0, 2, 3, 256, 257} {
		copy(b[14:], two(kind))
		wantOpenError(t, "another Kind", b, l, 100, api.ErrAuth)
	}
	copy(b[14:], two(1))
	wantOpenError(t, "a byte more", b, l, 100, api.ErrLength)
	b = b[:24]
	wantOpenError(t, "a sum", b, l, 100, api.ErrSum)
	b = resummed(b)
	wantOpenError(t, "a password, and the time", b, l, 100, api.ErrKey)
	copy(b[16:], "ab")
	wantOpenError(t, "the time", b, l, 100, api.ErrKey)
	wantOpened(t, "healed", b, l, 99, 0, 24)
}

// TestOpenDigestOrder: all is wrong, and is healed one after the other. The sum is never asked.
func TestOpenDigestOrder(t *testing.T) {
	l := []api.AuthKey{key(7, 2, "ab"), key(7, 2, "cd")}
	b := slices.Concat(ack(), make([]byte, 17))
	copy(b[12:], []byte{1, 2, 0, 1, 3, 3, 8, 15, 1, 2, 3, 4})
	wantOpenError(t, "a chain that may not be", b, l, 100, api.ErrKey)
	l = l[:1]
	for _, kind := range []uint16{0, 1, 3, 513, 514} {
		copy(b[14:], two(kind))
		wantOpenError(t, "another Kind", b, l, 100, api.ErrAuth)
	}
	copy(b[14:], two(2))
	wantOpenError(t, "Data's first, second, fourth", b, l, 100, api.ErrField)
	b[16] = 0
	wantOpenError(t, "Data's second, fourth", b, l, 100, api.ErrField)
	b[17] = 0
	wantOpenError(t, "Data's fourth", b, l, 100, api.ErrField)
	b[19] = 16
	for _, at := range []int{16, 17, 19} {
		wantOpenError(t, "one of them", changed(b, at, 17), l, 100, api.ErrField)
	}
	wantOpenError(t, "a byte more", b, l, 100, api.ErrLength)
	for n := 24; n < 40; n++ {
		wantOpenError(t, "too few bytes", b[:n], l, 100, api.ErrLength)
	}
	b = b[:40]
	wantOpenError(t, "an ID, the digest, the time", b, l, 100, api.ErrKey)
	copy(b[24:], keyed([]byte("ab"), b[:24]))
	wantOpenError(t, "an ID, the time", b, l, 100, api.ErrKey)
	wantOpenError(t, "an ID", b, l, 99, api.ErrKey)
	b[18] = 7
	wantOpenError(t, "the digest", b, l, 99, api.ErrKey)
	copy(b[24:], keyed([]byte("ab"), b[:24]))
	wantOpenError(t, "the time", b, l, 100, api.ErrKey)
	wantOpened(t, "healed", b, l, 99, 0x01020304, 24)
}

// TestOpenManyKeys: each of a chain's keys opens what it signed, for the time that it is taken.
func TestOpenManyKeys(t *testing.T) {
	for kind := range uint16(2) {
		var l []api.AuthKey
		for i := range 16 {
			k := key(uint8(16*i), kind+1, "key"+string(rune('a'+i)))
			k.TakeFrom, k.TakeUntil = i, i+3
			l = append(l, k)
		}
		for i, k := range l {
			b := made(t, ack(), l[i:i+1], 0, 7*uint32(kind))
			for now := -1; now < 25; now++ {
				if k.TakeFrom <= now && now <= k.TakeUntil {
					wantOpened(t, "its time", b, l, now, 7*uint32(kind), 24)
				} else {
					wantOpenError(t, "another time", b, l, now, api.ErrKey)
				}
			}
		}
	}
}

// TestPlainKnowsPasswordsAlone: neither IDs count, nor noughts that end a secret.
func TestPlainKnowsPasswordsAlone(t *testing.T) {
	for _, c := range []struct {
		secret, other string
		is            bool
	}{{"ab", "ab", true}, {"ab", "ab\x00", true}, {"ab\x00\x00\x00\x00\x00\x00", "ab", true}, {"ab", "abc", false}, {"ab", "a", false}, {"ab", "\x00ab", false}, {"12345678", "1234567", false}, {"12345678", "12345679", false}, {"\x00", "\x00\x00", true}} {
		b := made(t, ack(), []api.AuthKey{key(1, 1, c.secret)}, 5, 0)
		l := []api.AuthKey{key(2, 1, "no"), key(9, 1, c.other)}
		if c.is {
			wantOpened(t, "another ID", b, l, 5, 0, 24)
		} else {
			wantOpenError(t, "another password", b, l, 5, api.ErrKey)
		}
	}
}

// TestDigestAsksTheID: of a key with the same secret and another ID nothing is opened.
func TestDigestAsksTheID(t *testing.T) {
	b := made(t, ack(), []api.AuthKey{key(1, 2, "ab")}, 5, 3)
	wantOpenError(t, "another ID", b, []api.AuthKey{key(2, 2, "ab")}, 5, api.ErrKey)
	wantOpenError(t, "the ID of another secret", b, []api.AuthKey{key(2, 2, "ab"), key(1, 2, "abc")}, 5, api.ErrKey)
	wantOpened(t, "beside others", b, []api.AuthKey{key(2, 2, "ab"), key(1, 2, "ab"), key(3, 2, "x")}, 5, 3, 24)
}

// TestOpenChanges: each byte of what was signed is changed, cut, or one is added.
func TestOpenChanges(t *testing.T) {
	for _, b := range some(t)[:7] {
		for _, l := range chains() {
			row := made(t, b, l, 60, 0x01020304)
			for i := range row {
				for _, with := range []byte{1, 2, 16, 128, 255} {
					c := changed(row, i, row[i]^with)
					wantOpen(t, "a byte otherwise", c, l, 60)
					if _, _, e := auth.Open(c, l, 60); e == api.OK && (i < 16 || i >= 24 || len(l) > 0) {
						t.Errorf("what follows: byte %d of %v is otherwise, and it is opened", i, head(row))
					}
				}
				wantOpen(t, "cut", row[:i], l, 60)
			}
			wantOpen(t, "a byte more", append(bytes.Clone(row), 0), l, 60)
			wantSign(t, "signed again", row, l, 60, 5)
		}
	}
}

// TestWhatIsSignedIsOpened: by the chain, if the key is taken then; not by another's.
func TestWhatIsSignedIsOpened(t *testing.T) {
	r := rand.New(rand.NewPCG(8, 3))
	packets := some(t)[:7]
	done := 0
	for range 20000 {
		l, other := mixedChain(r), mixedChain(r)
		now, seq := r.IntN(12), r.Uint32()
		b := packets[r.IntN(len(packets))]
		wantSign(t, "a mixed chain", b, l, now, seq)
		row, e := auth.Sign(b, l, now, seq)
		if e != api.OK {
			continue
		}
		wantOpen(t, "a mixed chain", row, l, now)
		wantOpen(t, "another chain", row, other, now)
		i := auth.Choose(l, now)
		if len(l) == 0 || l[i].TakeFrom > now || now > l[i].TakeUntil {
			continue
		}
		done++
		_, n, e := auth.Open(row, l, now)
		if e != api.OK || n != len(b) {
			t.Errorf("what follows: %v signs what it does not open: %d, %d", l, n, e)
		}
		if _, _, e := auth.Open(row, nil, now); e != api.ErrAuth {
			t.Errorf("what follows: without keys, of what was signed: %d", e)
		}
	}
	if done < 2000 {
		t.Errorf("%d chains alone signed what they take", done)
	}
}

// TestAnyBytes: whatever comes, by the words.
func TestAnyBytes(t *testing.T) {
	r := rand.New(rand.NewPCG(8, 4))
	for range 20000 {
		b := make([]byte, r.IntN(60))
		for i := range b {
			b[i] = byte(r.Uint32())
		}
		if len(b) >= 24 && r.IntN(8) > 0 {
			copy(b, []byte{2, byte(1 + r.IntN(5)), 0, byte(max(24, len(b)-16*r.IntN(2)))})
			copy(b[14:], two(uint16(r.IntN(3))))
			if r.IntN(2) == 0 {
				b[16], b[17], b[19] = 0, 0, 16
			}
			if r.IntN(2) == 0 {
				b = resummed(b)
			}
		}
		l := mixedChain(r)
		wantOpen(t, "any bytes", b, l, r.IntN(12))
		wantSign(t, "any bytes", b, l, r.IntN(12), r.Uint32())
	}
}

func wantTake(t *testing.T, x *auth.Last, router, seq uint32, want api.Errno) {
	t.Helper()
	if e := x.Take(router, seq); e != want {
		t.Errorf("P8.5: Take(%d, %d): %d; want %d", router, seq, e, want)
	}
}

func wantGet(t *testing.T, x *auth.Last, router, want uint32, is bool) {
	t.Helper()
	if seq, there := x.Get(router); seq != want || there != is {
		t.Errorf("P8.5: Get(%d): %d, %v; want %d, %v", router, seq, there, want, is)
	}
}

func TestLast(t *testing.T) {
	x := auth.New()
	wantGet(t, x, 1, 0, false)
	wantTake(t, x, 1, 5, api.OK)
	wantTake(t, x, 1, 5, api.OK)
	wantTake(t, x, 1, 4, api.ErrReplay)
	wantGet(t, x, 1, 5, true)
	wantTake(t, x, 2, 0, api.OK)
	wantGet(t, x, 2, 0, true)
	wantTake(t, x, 0, far, api.OK)
	wantTake(t, x, 0, far, api.OK)
	wantTake(t, x, 0, 0, api.ErrReplay)
	wantTake(t, x, 0, far-1, api.ErrReplay)
	wantTake(t, x, far, 0x7FFFFFFF, api.OK)
	wantTake(t, x, far, 0x80000000, api.OK)
	x.Forget(1)
	wantGet(t, x, 1, 0, false)
	wantGet(t, x, 2, 0, true)
	wantTake(t, x, 1, 0, api.OK)
	wantGet(t, x, 1, 0, true)
	x.Forget(9)
	x.Forget(2)
	x.Forget(2)
	wantGet(t, x, 2, 0, false)
	wantGet(t, x, 9, 0, false)
	wantGet(t, x, far, 0x80000000, true)
}

// TestLastNeverFalls: what Take lets by, held against the words, in two lists that know nothing of each other.
func TestLastNeverFalls(t *testing.T) {
	r := rand.New(rand.NewPCG(8, 5))
	lists := [2]*auth.Last{auth.New(), auth.New()}
	words := [2]map[uint32]uint32{{}, {}}
	for range 50000 {
		at, router, seq := r.IntN(2), uint32(r.IntN(20)), uint32(r.IntN(30))
		if r.IntN(10) == 0 {
			lists[at].Forget(router)
			delete(words[at], router)
		} else if last, is := words[at][router]; is && last > seq {
			wantTake(t, lists[at], router, seq, api.ErrReplay)
		} else {
			wantTake(t, lists[at], router, seq, api.OK)
			words[at][router] = seq
		}
		for i, x := range lists {
			want, is := words[i][router]
			wantGet(t, x, router, want, is)
		}
	}
}

func TestLastThatWasNotMade(t *testing.T) {
	for _, x := range []*auth.Last{nil, {}, new(auth.Last)} {
		for range 2 {
			wantTake(t, x, 1, 1, api.ErrArg)
			x.Forget(1)
			wantGet(t, x, 1, 0, false)
		}
	}
}

// roomy: a copy of l with spare room, in which fill stands.
func roomy[T any](l []T, fill T) []T {
	wide := append(slices.Clone(l), fill, fill, fill)
	return wide[:len(l)]
}

func spoil(b []byte) {
	b = b[:cap(b)]
	for i := range b {
		b[i] = 77
	}
}

// asItWas: do the list and its spare room hold what roomy laid there?
func asItWas(got, was []byte) bool {
	return bytes.Equal(got, was) && bytes.Equal(got[len(got):len(got)+3], []byte{9, 9, 9})
}

func TestMemory(t *testing.T) {
	for _, b := range some(t) {
		for _, l := range chains() {
			row := roomy(b, 9)
			keys := roomy(l, key(99, 2, "spare"))
			for i := range keys {
				keys[i].Secret = roomy(keys[i].Secret, 9)
			}
			one, other := made(t, row, keys, 60, 3), made(t, row, keys, 60, 3)
			spoil(one)
			both := roomy(other, 9)
			auth.Check(keys)
			auth.Choose(keys, 60)
			auth.Open(both, keys, 60)
			if !asItWas(row, b) || !asItWas(both, other) || keys[:len(l)+1][len(l)].ID != 99 {
				t.Fatal("R5: the packet, or the chain, was changed, or answered")
			}
			for i, k := range keys {
				if !asItWas(k.Secret, l[i].Secret) || k.ID != l[i].ID {
					t.Fatalf("R5: the key %d was changed", i)
				}
				spoil(k.Secret)
			}
			spoil(row)
			if want, _ := signed(b, l, 60, 3); !bytes.Equal(other, want) {
				t.Fatal("R5: Sign answers its argument's memory, or the same twice")
			}
			if again := made(t, b, l, 60, 3); !bytes.Equal(again, other) {
				t.Fatal("R6: Sign answers otherwise the second time")
			}
		}
	}
}
