package packet_test

import (
	"bytes"
	"math"
	"math/rand/v2"
	"reflect"
	"slices"
	"testing"

	"lodestar/api"
	"lodestar/packet"
	"lodestar/state"
)

const far = math.MaxUint32

// two, four: numbers of so many bytes, the highest first.
func two(v uint16) []byte  { return []byte{byte(v >> 8), byte(v)} }
func four(v uint32) []byte { return append(two(uint16(v>>16)), two(uint16(v))...) }

// number: of the bytes, the highest first.
func number(b []byte) int {
	v := 0
	for _, x := range b {
		v = 256*v + int(x)
	}
	return v
}

// wordSum: that of the words of a packet's bytes without Data's, folded.
func wordSum(b []byte) int {
	v := 0
	for i, x := range b {
		if i >= 16 && i < 24 {
			continue
		}
		if i%2 == 0 {
			v += 256 * int(x)
		} else {
			v += int(x)
		}
	}
	for v > 65535 {
		v = v/65536 + v%65536
	}
	return v
}

// part: the bytes behind the first twenty-four, as the table has them.
func part(p api.Packet) []byte {
	var row []byte
	switch p.Type {
	case 1:
		h := p.Hello
		row = slices.Concat(four(h.Mask), two(h.Interval), []byte{h.Opts, h.Priority}, four(h.Dead), four(h.DR), four(h.BDR))
		for _, id := range h.Neighbors {
			row = append(row, four(id)...)
		}
	case 2:
		row = slices.Concat(two(p.DD.MTU), []byte{p.DD.Opts, p.DD.Flags}, four(p.DD.Seq))
		for _, h := range p.DD.Heads {
			row = append(row, state.Head(h)...)
		}
	case 3:
		for _, k := range p.Keys {
			row = slices.Concat(row, []byte{0, 0, 0, k.Type}, four(k.ID), four(k.Adv))
		}
	case 4:
		row = four(uint32(len(p.States)))
		for _, s := range p.States {
			row = append(row, state.Bytes(s)...)
		}
	case 5:
		for _, h := range p.Heads {
			row = append(row, state.Head(h)...)
		}
	}
	return row
}

// framed: a packet's bytes with these behind the first twenty-four; the sum is the one that Encode lays.
func framed(p api.Packet, a packet.Auth, behind []byte) []byte {
	b := slices.Concat([]byte{2, p.Type}, two(uint16(24+len(behind))), four(p.Router), four(p.Area), []byte{0, 0}, two(a.Kind), a.Data[:], behind)
	if a.Kind != 2 {
		copy(b[12:], two(uint16(65535-wordSum(b))))
	}
	return b
}

func laid(p api.Packet, a packet.Auth) []byte { return framed(p, a, part(p)) }

// verdict: what Decode must answer to these bytes, by the document's words.
func verdict(b []byte) api.Errno {
	if e := lengthVerdict(b); e != api.OK {
		return e
	}
	n, kind := number(b[2:4]), number(b[14:16])
	switch {
	case kind > 2:
		return api.ErrAuth
	case kind < 2 && len(b) > n:
		return api.ErrLength
	case kind < 2 && wordSum(b) != 65535:
		return api.ErrSum
	}
	return partVerdict(b[1], b[24:n])
}

func lengthVerdict(b []byte) api.Errno {
	switch {
	case len(b) < 24:
		return api.ErrShort
	case b[0] != 2:
		return api.ErrVersion
	case b[1] < 1 || b[1] > 5:
		return api.ErrType
	case number(b[2:4]) < 24 || number(b[2:4]) > len(b):
		return api.ErrLength
	}
	return api.OK
}

func partVerdict(kind uint8, b []byte) api.Errno {
	first := [6]int{1: 20, 2: 8, 4: 4}[kind]
	each := [6]int{1: 4, 2: 20, 3: 12, 4: 1, 5: 20}[kind]
	if len(b) < first || (len(b)-first)%each != 0 {
		return api.ErrLength
	}
	if kind == 3 {
		for k := range slices.Chunk(b, 12) {
			if number(k[:4]) > 255 {
				return api.ErrField
			}
		}
	}
	if kind == 4 {
		count := 0
		for rest := b[4:]; len(rest) > 0; count++ {
			if len(rest) < 20 || number(rest[18:20]) < 20 || number(rest[18:20]) > len(rest) {
				return api.ErrLength
			}
			rest = rest[number(rest[18:20]):]
		}
		if count != number(b[:4]) {
			return api.ErrLength
		}
	}
	return api.OK
}

// plain: the packet with lists without elements as nil.
func plain(p api.Packet) api.Packet {
	bare(&p.Hello.Neighbors)
	bare(&p.DD.Heads)
	bare(&p.Keys)
	bare(&p.Heads)
	p.States = slices.Clone(p.States)
	for i := range p.States {
		bare(&p.States[i].Body)
	}
	bare(&p.States)
	return p
}

func bare[T any](l *[]T) {
	if len(*l) == 0 {
		*l = nil
	}
}

func samePacket(a, b api.Packet) bool { return reflect.DeepEqual(plain(a), plain(b)) }

// measured: a state of any Type and bytes, whose Len tells how many it has.
func measured(kind uint8, body ...byte) api.State {
	return api.State{Head: api.Head{Age: 0x0102, Opts: 3, Type: kind, ID: 0x14151617, Adv: 0x18191A1B, Seq: -5, Sum: 0x2021, Len: uint16(20 + len(body))}, Body: body}
}

// some: packets that may be, of each Type, the edges among them.
func some() []api.Packet {
	heads := []api.Head{{}, measured(1).Head, {Age: 65535, Opts: 255, Type: 255, ID: far, Adv: far, Seq: math.MinInt32, Sum: 65535, Len: 65535}, {Seq: -1, Len: 3}}
	states := []api.State{measured(1), measured(3, 255, 255, 255, 0, 0, 0, 0, 10), measured(77, 1), measured(0, bytes.Repeat([]byte{9, 8, 7}, 100)...)}
	return []api.Packet{
		{Type: 1},
		{Type: 1, Router: 0x01020304, Area: 0x05060708, Hello: api.HelloBody{Mask: 0x090A0B0C, Interval: 0x0D0E, Opts: 15, Priority: 16, Dead: 0x11121314, DR: 0x15161718, BDR: 0x191A1B1C}},
		{Type: 1, Hello: api.HelloBody{Mask: 0xFF00FF01, Neighbors: []uint32{0}}},
		{Type: 1, Router: far, Area: far, Hello: api.HelloBody{Mask: far, Interval: 65535, Opts: 255, Priority: 255, Dead: far, DR: far, BDR: far, Neighbors: []uint32{far, 0x01020304, 7, 7}}},
		{Type: 2},
		{Type: 2, Router: 1, DD: api.DDBody{MTU: 0x0102, Opts: 3, Flags: 4, Seq: 0x05060708}},
		{Type: 2, Area: 9, DD: api.DDBody{MTU: 65535, Opts: 255, Flags: 255, Seq: far, Heads: heads}},
		{Type: 2, DD: api.DDBody{Heads: heads[:1]}},
		{Type: 3},
		{Type: 3, Router: 7, Keys: []api.Key{{}}},
		{Type: 3, Area: 7, Keys: []api.Key{{Type: 1, ID: 0x02030405, Adv: 0x06070809}, {Type: 255, ID: far, Adv: far}, {Type: 6}, {Type: 6}}},
		{Type: 4},
		{Type: 4, Router: 3, States: states[:1]},
		{Type: 4, Area: 4, States: states},
		{Type: 4, States: slices.Repeat(states[2:3], 300)},
		{Type: 5},
		{Type: 5, Router: 1},
		{Type: 5, Router: 2, Area: 3, Heads: heads},
	}
}

// auths: one of each Kind, and Data of all sorts.
func auths() []packet.Auth {
	data := [8]byte{1, 2, 3, 250, 251, 252, 253, 254}
	return []packet.Auth{{}, {Kind: 0, Data: data}, {Kind: 1}, {Kind: 1, Data: data}, {Kind: 2}, {Kind: 2, Data: data}}
}

// made: the bytes of a packet that may be.
func made(t *testing.T, p api.Packet, a packet.Auth) []byte {
	t.Helper()
	b, e := packet.Encode(p, a)
	if e != api.OK {
		t.Fatalf("P7.1: Encode of Type %d, Kind %d: %d", p.Type, a.Kind, e)
	}
	return b
}

func wantRefused(t *testing.T, what string, p api.Packet, a packet.Auth, want api.Errno) {
	t.Helper()
	if b, e := packet.Encode(p, a); e != want || len(b) != 0 {
		t.Errorf("P7.1: %s: Encode of Type %d, Kind %d: %d bytes, %d; want none, %d", what, p.Type, a.Kind, len(b), e, want)
	}
}

// wantDecode asks for the verdict of the words; what is read must be written as the same bytes.
func wantDecode(t *testing.T, what string, b []byte) {
	t.Helper()
	want := verdict(b)
	p, a, e := packet.Decode(b)
	if e != want {
		t.Errorf("P7.3: %s: Decode of %v: %d; want %d", what, head(b), e, want)
		return
	}
	if want != api.OK {
		if !reflect.DeepEqual(p, api.Packet{}) || a != (packet.Auth{}) {
			t.Errorf("R2: %s: a packet or its Auth beside the error %d", what, e)
		}
		return
	}
	wantSame(t, what, b, p, a)
}

// wantSame: Encode of Decode; the sum of Kind 2 does not count, and of the two right ones that are noughts and all ones either.
func wantSame(t *testing.T, what string, b []byte, p api.Packet, a packet.Auth) {
	t.Helper()
	again, e := packet.Encode(p, a)
	want := bytes.Clone(b[:number(b[2:4])])
	if a.Kind == 2 || number(want[12:14]) == 65535 {
		want[12], want[13] = 0, 0
	}
	if e != api.OK || !bytes.Equal(again, want) {
		t.Errorf("what follows: %s: Encode of Decode of %v: %v, %d", what, head(b), head(again), e)
	}
}

// head: of many bytes the first, to be told.
func head(b []byte) []byte { return b[:min(len(b), 60)] }

func wantError(t *testing.T, what string, b []byte, want api.Errno) {
	t.Helper()
	if _, _, e := packet.Decode(b); e != want {
		t.Errorf("P7.3: %s: %d; want %d", what, e, want)
	}
	wantDecode(t, what, b)
}

// resummed: b with the sum that is right for it.
func resummed(b []byte) []byte {
	b = bytes.Clone(b)
	b[12], b[13] = 0, 0
	copy(b[12:], two(uint16(65535-wordSum(b))))
	return b
}

func TestExamples(t *testing.T) {
	ack := []byte{2, 5, 0, 24, 0, 0, 0, 1, 0, 0, 0, 0, 253, 225, 0, 0, 0, 0, 0, 0, 0, 0, 0, 0}
	p := api.Packet{Type: 5, Router: 1}
	if b, e := packet.Encode(p, packet.Auth{}); e != api.OK || !bytes.Equal(b, ack) {
		t.Errorf("P7.1: %v, %d; want %v", b, e, ack)
	}
	if q, a, e := packet.Decode(ack); e != api.OK || !samePacket(p, q) || a != (packet.Auth{}) {
		t.Errorf("P7.3: %v, %v, %d; want %v", q, a, e, p)
	}
	changed := func(at int, to byte) []byte {
		b := bytes.Clone(ack)
		b[at] = to
		return b
	}
	wantError(t, "a byte more", append(bytes.Clone(ack), 0), api.ErrLength)
	wantError(t, "the first 23", ack[:23], api.ErrShort)
	wantError(t, "version 3", changed(0, 3), api.ErrVersion)
	wantError(t, "type 6", changed(1, 6), api.ErrType)
	wantError(t, "length 25", changed(3, 25), api.ErrLength)
	wantError(t, "another sum", changed(13, 226), api.ErrSum)
	wantRefused(t, "Type 6", api.Packet{Type: 6}, packet.Auth{}, api.ErrType)
	wantRefused(t, "a Priority", api.Packet{Type: 5, Hello: api.HelloBody{Priority: 1}}, packet.Auth{}, api.ErrField)
	wantRefused(t, "Kind 3", p, packet.Auth{Kind: 3}, api.ErrAuth)
	request := api.Packet{Type: 3}
	wantError(t, "23 bytes of keys", framed(request, packet.Auth{}, make([]byte, 23)), api.ErrLength)
	wantError(t, "a key's Type 256", framed(request, packet.Auth{}, []byte{2: 1, 11: 0}), api.ErrField)
}

func TestEncode(t *testing.T) {
	for _, p := range some() {
		for _, a := range auths() {
			b, e := packet.Encode(p, a)
			if want := laid(p, a); e != api.OK || !bytes.Equal(b, want) {
				t.Errorf("P7.1: Encode of %v, %v: %v, %d; want %v", p, a, head(b), e, head(want))
			}
			if a.Kind != 2 && !packet.Right(b) {
				t.Errorf("P7.2: Type %d, Kind %d: what Encode makes is not Right", p.Type, a.Kind)
			}
		}
	}
}

func TestEncodeTypes(t *testing.T) {
	for kind := range 256 {
		if 1 <= kind && kind <= 5 {
			made(t, api.Packet{Type: uint8(kind)}, packet.Auth{})
			continue
		}
		p := api.Packet{Type: uint8(kind)}
		wantRefused(t, "no Type", p, packet.Auth{}, api.ErrType)
		p.Hello.Mask, p.Keys, p.States = 1, make([]api.Key, 9000), make([]api.State, 1)
		wantRefused(t, "no Type, and all else", p, packet.Auth{Kind: 3}, api.ErrType)
	}
}

// things: packets that have one thing each, and the Type that has it.
func things() []api.Packet {
	return []api.Packet{
		{Type: 1, Hello: api.HelloBody{Mask: 1 << 31}},
		{Type: 1, Hello: api.HelloBody{Interval: 1 << 8}},
		{Type: 1, Hello: api.HelloBody{Opts: 1}},
		{Type: 1, Hello: api.HelloBody{Priority: 1}},
		{Type: 1, Hello: api.HelloBody{Dead: 1 << 16}},
		{Type: 1, Hello: api.HelloBody{DR: 1}},
		{Type: 1, Hello: api.HelloBody{BDR: 1}},
		{Type: 1, Hello: api.HelloBody{Neighbors: []uint32{0}}},
		{Type: 2, DD: api.DDBody{MTU: 1}},
		{Type: 2, DD: api.DDBody{Opts: 1}},
		{Type: 2, DD: api.DDBody{Flags: 1}},
		{Type: 2, DD: api.DDBody{Seq: 1 << 31}},
		{Type: 2, DD: api.DDBody{Heads: []api.Head{{}}}},
		{Type: 3, Keys: []api.Key{{}}},
		{Type: 4, States: []api.State{measured(0)}},
		{Type: 5, Heads: []api.Head{{}}},
	}
}

func TestEncodeFields(t *testing.T) {
	for i, p := range things() {
		own := p.Type
		for kind := uint8(1); kind <= 5; kind++ {
			p.Type = kind
			if kind == own {
				made(t, p, packet.Auth{})
				continue
			}
			wantRefused(t, "what its Type does not have", p, packet.Auth{}, api.ErrField)
			if i > 0 {
				p.Router, p.Area = 1, 2
			}
			wantRefused(t, "what its Type does not have, and a Kind", p, packet.Auth{Kind: 3}, api.ErrField)
		}
	}
	for kind := uint8(1); kind <= 5; kind++ {
		p := api.Packet{Type: kind, Keys: []api.Key{}, States: []api.State{}, Heads: []api.Head{}}
		p.Hello.Neighbors, p.DD.Heads = []uint32{}, []api.Head{}
		if b := made(t, p, packet.Auth{}); !bytes.Equal(b, made(t, api.Packet{Type: kind}, packet.Auth{})) {
			t.Errorf("R4: Type %d: lists without elements are not as nil", kind)
		}
	}
}

func TestEncodeLengths(t *testing.T) {
	good := measured(3, 1, 2, 3, 4)
	for _, off := range []uint16{1, 4, 65535, 65532, 65512, 256} {
		bad := good
		bad.Head.Len += off
		for _, l := range [][]api.State{{bad}, {bad, good}, {good, good, bad}} {
			wantRefused(t, "another Len", api.Packet{Type: 4, States: l}, packet.Auth{}, api.ErrLength)
			wantRefused(t, "another Len, and a Kind", api.Packet{Type: 4, States: l}, packet.Auth{Kind: 9}, api.ErrLength)
		}
	}
	round := api.State{Head: api.Head{Len: 20}, Body: make([]byte, 65536)}
	wantRefused(t, "a Len that goes round", api.Packet{Type: 4, States: []api.State{round}}, packet.Auth{}, api.ErrLength)
	wantRefused(t, "Len 0", api.Packet{Type: 4, States: []api.State{{}}}, packet.Auth{}, api.ErrLength)
	wantRefused(t, "too long, and the last Len", api.Packet{Type: 4, States: []api.State{measured(1, make([]byte, 65515)...), {}}}, packet.Auth{}, api.ErrLength)
	odd := api.Packet{Type: 5, States: []api.State{{}}}
	wantRefused(t, "another Len of what an Ack does not have", odd, packet.Auth{}, api.ErrField)
	heads := []api.Head{{Len: 3}, {Len: 65535}}
	made(t, api.Packet{Type: 5, Heads: heads}, packet.Auth{})
	made(t, api.Packet{Type: 2, DD: api.DDBody{Heads: heads}}, packet.Auth{})
}

func TestEncodeKinds(t *testing.T) {
	for _, p := range some() {
		for _, kind := range []uint16{3, 4, 255, 256, 257, 258, 32768, 65535} {
			wantRefused(t, "no Kind", p, packet.Auth{Kind: kind}, api.ErrAuth)
		}
	}
}

// TestEncodeLimit: as many as fit into 65,535 bytes of each Type, and one more.
func TestEncodeLimit(t *testing.T) {
	packets := map[string]func(n int) api.Packet{
		"neighbours": func(n int) api.Packet {
			return api.Packet{Type: 1, Hello: api.HelloBody{Neighbors: make([]uint32, n)}}
		},
		"heads of a Description": func(n int) api.Packet {
			return api.Packet{Type: 2, DD: api.DDBody{Heads: make([]api.Head, n)}}
		},
		"keys":   func(n int) api.Packet { return api.Packet{Type: 3, Keys: make([]api.Key, n)} },
		"states": func(n int) api.Packet { return api.Packet{Type: 4, States: slices.Repeat([]api.State{measured(1)}, n)} },
		"bytes of states": func(n int) api.Packet {
			return api.Packet{Type: 4, States: []api.State{measured(1), measured(2, make([]byte, n)...)}}
		},
		"heads of an Ack": func(n int) api.Packet { return api.Packet{Type: 5, Heads: make([]api.Head, n)} },
	}
	fits := map[string]int{"neighbours": 16372, "heads of a Description": 3275, "keys": 5459, "states": 3275, "bytes of states": 65467, "heads of an Ack": 3275}
	for what, pack := range packets {
		n := fits[what]
		for kind := range uint16(3) {
			a := packet.Auth{Kind: kind}
			b := made(t, pack(n), a)
			if !bytes.Equal(b, laid(pack(n), a)) {
				t.Errorf("P7.1: %d %s: %v", n, what, head(b))
			}
			if p, _, e := packet.Decode(b); e != api.OK || !samePacket(p, pack(n)) {
				t.Errorf("P7.3: %d %s: %d", n, what, e)
			}
			for _, more := range []int{1, 2, 3} {
				wantRefused(t, what, pack(n+more), a, api.ErrLong)
			}
		}
		wantRefused(t, what+", and a Kind", pack(n+1), packet.Auth{Kind: 3}, api.ErrAuth)
	}
	if b := made(t, packets["bytes of states"](65467), packet.Auth{}); len(b) != 65535 {
		t.Errorf("P7.1: %d bytes at the limit", len(b))
	}
	many := slices.Repeat([]api.State{measured(1, make([]byte, 65515)...)}, 1<<20)
	wantRefused(t, "many long states", api.Packet{Type: 4, States: many}, packet.Auth{}, api.ErrLong)
	wantRefused(t, "many neighbours", packets["neighbours"](1<<22), packet.Auth{}, api.ErrLong)
}

// TestEncodeOrder heals one thing after the other, in the order in which they are named.
func TestEncodeOrder(t *testing.T) {
	p := api.Packet{Type: 0, Keys: make([]api.Key, 1), States: slices.Repeat([]api.State{measured(9, make([]byte, 40000)...)}, 3)}
	p.States[2].Head.Len--
	a := packet.Auth{Kind: 3}
	wantRefused(t, "all is wrong", p, a, api.ErrType)
	p.Type = 4
	wantRefused(t, "a key, a Len, a Kind, too long", p, a, api.ErrField)
	p.Keys = nil
	wantRefused(t, "a Len, a Kind, too long", p, a, api.ErrLength)
	p.States[2].Head.Len++
	wantRefused(t, "a Kind, too long", p, a, api.ErrAuth)
	a.Kind = 2
	wantRefused(t, "too long", p, a, api.ErrLong)
	p.States = p.States[:1]
	made(t, p, a)
}

func wantLength(t *testing.T, what string, b []byte, n int, want api.Errno) {
	t.Helper()
	if got, e := packet.Length(b); got != n || e != want {
		t.Errorf("P7.2: %s: Length of %v: %d, %d; want %d, %d", what, head(b), got, e, n, want)
	}
}

func TestLength(t *testing.T) {
	wantLength(t, "nothing", nil, 0, api.ErrShort)
	b := make([]byte, 70000)
	b[0], b[1], b[3] = 2, 1, 24
	for n := range 24 {
		wantLength(t, "too few", b[:n], 0, api.ErrShort)
		wantLength(t, "too few of another version", make([]byte, n), 0, api.ErrShort)
	}
	for v := range 256 {
		x := bytes.Clone(b[:24])
		x[0] = byte(v)
		if v != 2 {
			wantLength(t, "a version", x, 0, api.ErrVersion)
			x[1], x[3] = 9, 9
			wantLength(t, "a version, a type, a length", x, 0, api.ErrVersion)
		}
		x = bytes.Clone(b[:24])
		x[1] = byte(v)
		if v < 1 || v > 5 {
			wantLength(t, "a type", x, 0, api.ErrType)
			x[3] = 9
			wantLength(t, "a type, a length", x, 0, api.ErrType)
		} else {
			wantLength(t, "each type", x, 24, api.OK)
		}
	}
	for _, n := range []int{0, 1, 23, 24, 25, 255, 256, 257, 4096, 65534, 65535} {
		copy(b[2:], two(uint16(n)))
		for _, has := range []int{24, 25, n - 1, n, n + 1, 70000} {
			if has < 24 {
				continue
			}
			if n < 24 || n > has {
				wantLength(t, "no length", b[:has], 0, api.ErrLength)
			} else {
				wantLength(t, "a length", b[:has], n, api.OK)
			}
		}
	}
	b[14], b[15] = 255, 255
	wantLength(t, "neither Kind nor sum is asked", b, 65535, api.OK)
}

func wantRight(t *testing.T, what string, b []byte, want bool) {
	t.Helper()
	if got := packet.Right(b); got != want {
		t.Errorf("P7.2: %s: Right of %v: %v", what, head(b), got)
	}
}

func TestRight(t *testing.T) {
	wantRight(t, "nothing", nil, false)
	for _, p := range some() {
		for _, a := range auths() {
			b := resummed(laid(p, a))
			wantRight(t, "the right sum, of each Kind", b, true)
			wantRight(t, "what is behind the length", append(bytes.Clone(b), 1, 2, 3), true)
			if a.Kind == 2 {
				wantRight(t, "the sum 0 of Kind 2", laid(p, a), wordSum(laid(p, a)) == 65535)
			}
			wantRight(t, "without the last byte", b[:len(b)-1], false)
			b[13]++
			wantRight(t, "another sum", b, false)
		}
	}
	b := resummed(laid(api.Packet{Type: 5}, packet.Auth{Kind: 7}))
	wantRight(t, "a Kind that is none", b, true)
	b[0], b[4] = 1, 1 // as much in sum, but for another version
	wantRight(t, "another version", b, false)
	odd := resummed(laid(api.Packet{Type: 4, States: []api.State{measured(9, 5)}}, packet.Auth{}))
	wantRight(t, "an odd number of bytes", odd, true)
	odd = append(odd, 77)
	wantRight(t, "an odd number, and a byte behind", odd, true)
}

// TestNoughtsAndOnes: a sum of noughts and one of all ones are both right, if one of them is.
func TestNoughtsAndOnes(t *testing.T) {
	p := api.Packet{Type: 5, Router: 0x00010000}
	b := laid(p, packet.Auth{})
	p.Router += uint32(number(b[12:14]))
	b = made(t, p, packet.Auth{})
	if b[12] != 0 || b[13] != 0 {
		t.Fatalf("P7.1: the sum %v; want 0", b[12:14])
	}
	wantError(t, "the sum 0", b, api.OK)
	b[12], b[13] = 255, 255
	wantRight(t, "all ones", b, true)
	wantError(t, "the sum of all ones", b, api.OK)
}

func TestDecode(t *testing.T) {
	for _, p := range some() {
		for _, a := range auths() {
			b := laid(p, a)
			q, c, e := packet.Decode(b)
			if e != api.OK || c != a || !samePacket(p, q) {
				t.Errorf("P7.3: Decode of %v: %v, %v, %d; want %v, %v", head(b), q, c, e, p, a)
			}
			wantDecode(t, "as it is", b)
			for n := range min(len(b), 200) {
				wantDecode(t, "the first", b[:n])
			}
			for _, more := range []int{1, 16, 20, 70000} {
				x := append(bytes.Clone(b), make([]byte, more)...)
				wantDecode(t, "more", x)
				if a.Kind != 2 {
					wantError(t, "behind the length", x, api.ErrLength)
					x[13]++
					wantError(t, "behind the length, and another sum", x, api.ErrLength)
				} else if q, c, e := packet.Decode(x); e != api.OK || c != a || !samePacket(p, q) {
					t.Errorf("P7.3: behind the length of Kind 2: %v, %v, %d", q, c, e)
				}
			}
		}
	}
}

func TestDecodeKinds(t *testing.T) {
	for _, kind := range []uint16{3, 4, 255, 256, 257, 258, 65535} {
		b := resummed(laid(api.Packet{Type: 3}, packet.Auth{Kind: kind}))
		wantError(t, "no Kind", b, api.ErrAuth)
		wantError(t, "no Kind, and more bytes", append(b, 0), api.ErrAuth)
		b[12]++
		wantError(t, "no Kind, and another sum", b, api.ErrAuth)
	}
	b := laid(api.Packet{Type: 1, Hello: api.HelloBody{Neighbors: []uint32{7}}}, packet.Auth{Kind: 2})
	for _, sum := range []uint16{0, 1, 0x1234, 65535} {
		copy(b[12:], two(sum))
		wantError(t, "any sum of Kind 2", b, api.OK)
	}
}

// TestDecodeParts: each number of bytes behind the head, of each Type, of noughts and of ones.
func TestDecodeParts(t *testing.T) {
	for kind := uint8(1); kind <= 5; kind++ {
		for n := range 130 {
			for auth := range uint16(3) {
				a := packet.Auth{Kind: auth}
				wantDecode(t, "noughts", framed(api.Packet{Type: kind}, a, make([]byte, n)))
				wantDecode(t, "ones", framed(api.Packet{Type: kind}, a, bytes.Repeat([]byte{1}, n)))
				b := framed(api.Packet{Type: kind}, a, make([]byte, n))
				b[12], b[13] = 1, 1
				wantDecode(t, "another sum", b)
			}
		}
	}
}

func TestDecodeKeys(t *testing.T) {
	request := api.Packet{Type: 3}
	for i := range 3 {
		for place := range 3 {
			row := make([]byte, 36)
			row[12*i+place] = 1
			wantError(t, "a key's Type above 255", framed(request, packet.Auth{}, row), api.ErrField)
			wantError(t, "a key's Type above 255, and half a key", framed(request, packet.Auth{}, row[:35]), api.ErrLength)
		}
	}
	if p, _, e := packet.Decode(framed(request, packet.Auth{}, []byte{0, 0, 0, 255, 0, 0, 0, 1, 0, 0, 0, 2})); e != api.OK || !slices.Equal(p.Keys, []api.Key{{Type: 255, ID: 1, Adv: 2}}) {
		t.Errorf("P7.3: a key of Type 255: %v, %d", p.Keys, e)
	}
}

func TestDecodeStates(t *testing.T) {
	update := api.Packet{Type: 4}
	sized := func(size uint16, n int) []byte {
		b := make([]byte, n)
		copy(b[18:], two(size))
		return b
	}
	for count := range uint32(5) {
		row := slices.Concat(four(count), sized(20, 20), sized(23, 23))
		want := api.ErrLength
		if count == 2 {
			want = api.OK
		}
		wantError(t, "two states", framed(update, packet.Auth{}, row), want)
		wantError(t, "two states, and a byte", framed(update, packet.Auth{}, append(row, 0)), api.ErrLength)
		wantError(t, "two states, less a byte", framed(update, packet.Auth{}, row[:len(row)-1]), api.ErrLength)
	}
	for _, count := range []uint32{0, 1, 256, 1 << 31, far} {
		want := api.ErrLength
		if count == 0 {
			want = api.OK
		}
		wantError(t, "no states", framed(update, packet.Auth{}, four(count)), want)
	}
	for size := range uint16(50) {
		row := append(four(1), sized(size, 40)...)
		want := api.ErrLength
		if size == 40 {
			want = api.OK
		}
		wantError(t, "a state's Len", framed(update, packet.Auth{}, row), want)
	}
	wantError(t, "a state whose Len goes past the length, with bytes there",
		append(framed(update, packet.Auth{Kind: 2}, append(four(1), sized(40, 30)...)), make([]byte, 30)...), api.ErrLength)
}

// TestDecodeChanges: each byte of short packets changed to others, with the sum as it was, put right, or not asked.
func TestDecodeChanges(t *testing.T) {
	for _, p := range some() {
		for _, a := range auths()[3:] {
			whole := laid(p, a)
			if len(whole) > 1000 { // for the time it takes
				continue
			}
			for at := range whole {
				for _, v := range []byte{0, 1, 2, 3, 4, 5, 6, 19, 20, 21, 24, 28, 44, 127, 128, 254, 255, whole[at] + 1, whole[at] - 1} {
					b := bytes.Clone(whole)
					b[at] = v
					wantDecode(t, "a byte changed", b)
					wantDecode(t, "a byte changed, summed anew", resummed(b))
				}
			}
		}
	}
}

// TestDecodeOrder heals one thing after the other, in the order in which they are named.
func TestDecodeOrder(t *testing.T) {
	b := framed(api.Packet{Type: 9}, packet.Auth{Kind: 3}, []byte{2: 1, 12: 0})
	b[0], b[3], b[12] = 1, 23, 99
	wantError(t, "all is wrong", b[:23], api.ErrShort)
	b = append(b, 0)
	wantError(t, "no version, and more", b, api.ErrVersion)
	b[0] = 2
	wantError(t, "no type, and more", b, api.ErrType)
	b[1] = 3
	wantError(t, "too short a length, and more", b, api.ErrLength)
	b[3] = 39
	wantError(t, "too great a length, and more", b, api.ErrLength)
	b[3] = 37
	wantError(t, "no Kind, a byte behind, another sum, half a key", b, api.ErrAuth)
	b[15] = 1
	wantError(t, "a byte behind, another sum, half a key, no Type of a key", b, api.ErrLength)
	b = b[:37]
	wantError(t, "another sum, half a key, no Type of a key", b, api.ErrSum)
	b = resummed(b)
	wantError(t, "half a key, no Type of a key", b, api.ErrLength)
	b[3] = 36
	b = resummed(b[:36])
	wantError(t, "no Type of a key", b, api.ErrField)
	b[26] = 0
	wantError(t, "healed", resummed(b), api.OK)
}

// TestChangesAreTold: Data may change; any other word that is changed is told, but noughts to all ones and back.
func TestChangesAreTold(t *testing.T) {
	r := rand.New(rand.NewPCG(7, 7))
	for _, p := range some() {
		for kind := range uint16(2) {
			whole := made(t, p, packet.Auth{Kind: kind})
			for at := 0; at+1 < min(len(whole), 120); at += 2 {
				for range 40 {
					to := uint16(r.Uint32())
					if r.IntN(8) == 0 {
						to = uint16(r.IntN(2)) * 65535
					}
					b := bytes.Clone(whole)
					copy(b[at:], two(to))
					was := number(whole[at : at+2])
					data := at >= 16 && at < 24
					same := int(to) == was || data || int(to)+was == 65535 && (to == 0 || was == 0)
					if same != packet.Right(b) && at != 0 && at != 2 {
						t.Errorf("what follows: Type %d: the word at %d, from %d to %d: Right: %v", p.Type, at, was, to, packet.Right(b))
					}
					_, _, e := packet.Decode(b)
					if !same && e == api.OK && number(b[14:16]) < 2 || data && e != api.OK {
						t.Errorf("what follows: Type %d: the word at %d, from %d to %d: %d", p.Type, at, was, to, e)
					}
				}
			}
		}
	}
}

// mixed: a packet of that Type that may be, of chance.
func mixed(r *rand.Rand, kind uint8) api.Packet {
	small := func() uint8 { return uint8(r.Uint32()) }
	short := func() uint16 { return uint16(r.Uint32()) }
	one := func() api.Head {
		return api.Head{Age: short(), Opts: small(), Type: small(), ID: r.Uint32(), Adv: r.Uint32(), Seq: int32(r.Uint32()), Sum: short(), Len: short()}
	}
	p := api.Packet{Type: kind, Router: r.Uint32(), Area: r.Uint32()}
	switch kind {
	case 1:
		p.Hello = api.HelloBody{Mask: r.Uint32(), Interval: short(), Opts: small(), Priority: small(), Dead: r.Uint32(), DR: r.Uint32(), BDR: r.Uint32()}
	case 2:
		p.DD = api.DDBody{MTU: short(), Opts: small(), Flags: small(), Seq: r.Uint32()}
	}
	for range r.IntN(9) {
		switch kind {
		case 1:
			p.Hello.Neighbors = append(p.Hello.Neighbors, r.Uint32())
		case 2:
			p.DD.Heads = append(p.DD.Heads, one())
		case 3:
			p.Keys = append(p.Keys, api.Key{Type: small(), ID: r.Uint32(), Adv: r.Uint32()})
		case 4:
			s := api.State{Head: one()}
			for range r.IntN(30) {
				s.Body = append(s.Body, small())
			}
			s.Head.Len = uint16(20 + len(s.Body))
			p.States = append(p.States, s)
		case 5:
			p.Heads = append(p.Heads, one())
		}
	}
	return p
}

// TestThereAndBack: of packets of chance.
func TestThereAndBack(t *testing.T) {
	r := rand.New(rand.NewPCG(7, 8))
	for range 2000 {
		p := mixed(r, uint8(1+r.IntN(5)))
		a := packet.Auth{Kind: uint16(r.IntN(3))}
		for i := range a.Data {
			a.Data[i] = uint8(r.Uint32())
		}
		b := made(t, p, a)
		if !bytes.Equal(b, laid(p, a)) {
			t.Fatalf("P7.1: Encode of %v, %v: %v", p, a, b)
		}
		q, c, e := packet.Decode(b)
		if e != api.OK || c != a || !samePacket(p, q) {
			t.Fatalf("what follows: Decode of Encode of %v, %v: %v, %v, %d", p, a, q, c, e)
		}
		wantDecode(t, "of chance", b)
		for range r.IntN(4) {
			b[r.IntN(len(b))] = uint8(r.Uint32())
		}
		wantDecode(t, "of chance, changed", b)
		wantDecode(t, "of chance, changed and cut", b[:r.IntN(len(b)+1)])
	}
}

// TestAnyBytes: whatever it is given, no call panics, and each answers as the words have it.
func TestAnyBytes(t *testing.T) {
	r := rand.New(rand.NewPCG(7, 9))
	for range 20000 {
		b := make([]byte, r.IntN(150))
		for i := range b {
			b[i] = uint8(r.Uint32())
			if r.IntN(3) > 0 {
				b[i] %= 8
			}
		}
		if len(b) >= 24 {
			b[0], b[1], b[2], b[3] = 2, uint8(r.IntN(7)), 0, uint8(max(24, r.IntN(len(b)+2)))
			b[14], b[15] = 0, uint8(r.IntN(4))
			b[12], b[13] = 0, 0
			copy(b[12:], two(uint16(65535-wordSum(b[:min(len(b), int(b[3]))]))))
		}
		wantDecode(t, "any bytes", b)
		n, e := packet.Length(b)
		if e != lengthVerdict(b) || e == api.OK && n != number(b[2:4]) || e != api.OK && n != 0 {
			t.Errorf("P7.2: Length of %v: %d, %d", b, n, e)
		}
		if packet.Right(b) != (e == api.OK && wordSum(b[:n]) == 65535) {
			t.Errorf("P7.2: Right of %v", b)
		}
	}
}

// roomy: a copy of l with spare room, in which fill stands.
func roomy[T any](l []T, fill T) []T {
	wide := append(slices.Clone(l), fill, fill, fill)
	return wide[:len(l)]
}

// spoil overwrites a list and its spare room.
func spoil[T any](l []T, with T) {
	l = l[:cap(l)]
	for i := range l {
		l[i] = with
	}
}

// spoilAll overwrites whatever lists a packet has, list by list; check is asked behind each.
func spoilAll(p api.Packet, check func()) {
	for _, s := range p.States {
		spoil(s.Body, 77)
		check()
	}
	spoil(p.Hello.Neighbors, 77)
	spoil(p.DD.Heads, api.Head{ID: 77})
	spoil(p.Keys, api.Key{ID: 77})
	spoil(p.Heads, api.Head{ID: 77})
	spoil(p.States, api.State{})
	check()
}

// wantSpare: the room behind a list still holds what roomy laid there.
func wantSpare[T any](t *testing.T, l []T, fill T) {
	t.Helper()
	for _, v := range l[len(l) : len(l)+3] {
		if !reflect.DeepEqual(v, fill) {
			t.Errorf("R5: spare room holds %v, not %v", v, fill)
		}
	}
}

// spacious: a deep copy of p, with spare room behind each list.
func spacious(p api.Packet) api.Packet {
	p.Hello.Neighbors = roomy(p.Hello.Neighbors, 9)
	p.DD.Heads = roomy(p.DD.Heads, api.Head{ID: 9})
	p.Keys = roomy(p.Keys, api.Key{ID: 9})
	p.Heads = roomy(p.Heads, api.Head{ID: 9})
	p.States = roomy(p.States, api.State{Head: api.Head{ID: 9}})
	for i := range p.States {
		p.States[i].Body = roomy(p.States[i].Body, 9)
	}
	return p
}

func TestEncodeMemory(t *testing.T) {
	for _, p := range some() {
		for _, a := range auths() {
			x := spacious(p)
			b := made(t, x, a)
			want := bytes.Clone(b)
			if !samePacket(x, p) {
				t.Errorf("R5: Type %d: Encode changed its packet", p.Type)
			}
			wantSpare(t, x.Hello.Neighbors, 9)
			wantSpare(t, x.DD.Heads, api.Head{ID: 9})
			wantSpare(t, x.Keys, api.Key{ID: 9})
			wantSpare(t, x.Heads, api.Head{ID: 9})
			wantSpare(t, x.States, api.State{Head: api.Head{ID: 9}})
			for _, s := range x.States {
				wantSpare(t, s.Body, 9)
			}
			spoilAll(x, func() {})
			if !bytes.Equal(b, want) {
				t.Errorf("R5: Type %d: Encode answers its argument's memory", p.Type)
			}
			spoil(b, 77)
			if again := made(t, p, a); !bytes.Equal(again, want) {
				t.Errorf("R6: Type %d: Encode answers otherwise the second time", p.Type)
			}
		}
	}
}

func TestDecodeMemory(t *testing.T) {
	for _, p := range some() {
		for _, a := range auths() {
			whole := laid(p, a)
			row := roomy(whole, 9)
			packet.Length(row)
			packet.Right(row)
			q, _, _ := packet.Decode(row)
			kept, _, _ := packet.Decode(row)
			spoilAll(q, func() {
				if !bytes.Equal(row, whole) || !samePacket(kept, p) {
					t.Fatalf("R5: Type %d: Decode answers its argument's memory, or the same twice", p.Type)
				}
			})
			wantSpare(t, row, 9)
			spoil(row, 77)
			if !samePacket(kept, p) {
				t.Errorf("R5: Type %d: Decode kept its argument", p.Type)
			}
		}
	}
}

// TestListsApart: no two lists of one answer share memory, spare room neither.
func TestListsApart(t *testing.T) {
	want := []api.State{measured(1, 1, 2, 3), measured(2, 4, 5), measured(3, 6)}
	b := made(t, api.Packet{Type: 4, States: want}, packet.Auth{})
	for i := range want {
		p, _, _ := packet.Decode(b)
		spoil(p.States[i].Body, 77)
		for j, s := range p.States {
			if j != i && !bytes.Equal(s.Body, want[j].Body) {
				t.Errorf("R5: the bytes of the state %d are the state %d's, too", j, i)
			}
		}
	}
}
