package state_test

import (
	"bytes"
	"math"
	"math/rand/v2"
	"reflect"
	"slices"
	"testing"

	"lodestar/api"
	"lodestar/state"
	"lodestar/sum"
)

// kinds: all Types of the table.
var kinds = []uint8{1, 2, 3, 4, 5, 7, 9, 10, 11}

// four: a number of four bytes, as every number here: the highest first.
func four(v uint32) []byte { return []byte{byte(v >> 24), byte(v >> 16), byte(v >> 8), byte(v)} }

// laid: the bytes of a body that may be, as the table has them.
func laid(kind uint8, b api.Body) []byte {
	mark := []byte{0}
	if b.Type2 {
		mark[0] = 128
	}
	metric := four(b.Metric)[1:]
	switch kind {
	case 1:
		n := len(b.Links)
		row := []byte{b.Flags, 0, byte(n / 256), byte(n % 256)}
		for _, l := range b.Links {
			row = append(row, slices.Concat(four(l.ID), four(l.Data), []byte{l.Type, 0, byte(l.Cost / 256), byte(l.Cost % 256)})...)
		}
		return row
	case 2:
		row := four(b.Mask)
		for _, id := range b.Routers {
			row = append(row, four(id)...)
		}
		return row
	case 3:
		return slices.Concat(four(b.Mask), []byte{0}, metric)
	case 4:
		return slices.Concat(make([]byte, 5), metric)
	case 5, 7:
		return slices.Concat(four(b.Mask), mark, metric, four(b.Forward), four(b.Tag))
	}
	return b.Data
}

// masks: the first four bytes, told as the bits of a text, are ones ahead of noughts.
func masks(row []byte) bool {
	if len(row) < 4 {
		return false
	}
	turned := false
	for i := range 32 {
		one := row[i/8]&(128>>(i%8)) != 0
		if one && turned {
			return false
		}
		turned = turned || !one
	}
	return true
}

// may: are these the bytes of a body of that Type, by the table's words?
func may(kind uint8, row []byte) bool {
	n := len(row)
	switch kind {
	case 1:
		if n < 4 || row[1] != 0 || n != 4+12*(256*int(row[2])+int(row[3])) {
			return false
		}
		for l := range slices.Chunk(row[4:], 12) {
			if l[8] < 1 || l[8] > 4 || l[9] != 0 {
				return false
			}
		}
		return true
	case 2:
		return masks(row) && n >= 8 && n%4 == 0
	case 3:
		return masks(row) && n == 8 && row[4] == 0
	case 4:
		return n == 8 && bytes.Equal(row[:5], make([]byte, 5))
	case 5, 7:
		return masks(row) && n == 16 && row[4]%128 == 0
	}
	return n%4 == 0
}

// plain: the body with lists without elements as nil.
func plain(b api.Body) api.Body {
	if len(b.Links) == 0 {
		b.Links = nil
	}
	if len(b.Routers) == 0 {
		b.Routers = nil
	}
	if len(b.Data) == 0 {
		b.Data = nil
	}
	return b
}

func sameBody(a, b api.Body) bool { return reflect.DeepEqual(plain(a), plain(b)) }

func sameState(a, b api.State) bool { return a.Head == b.Head && bytes.Equal(a.Body, b.Body) }

// some: bodies that may be of each Type, the edges among them.
func some(kind uint8) []api.Body {
	mask, far := uint32(0xFFFFFF00), uint32(0xFFFFFFFF)
	switch kind {
	case 1:
		links := []api.Link{{ID: 0x01020304, Data: 0x05060708, Type: 1, Cost: 0x090A}, {Type: 2, Cost: 65535}, {ID: far, Data: far, Type: 3}, {Type: 4}}
		return []api.Body{{}, {Flags: 255}, {Flags: 7, Links: links}, {Links: links[1:2]}, {Links: slices.Repeat(links, 70)}}
	case 2:
		return []api.Body{{Routers: []uint32{0}}, {Mask: mask, Routers: []uint32{0x01020304, far, 0, 7, 7}}, {Mask: far, Routers: make([]uint32, 300)}}
	case 3:
		return []api.Body{{}, {Mask: mask, Metric: 0x010203}, {Mask: far, Metric: 1<<24 - 1}, {Mask: 1 << 31, Metric: 1}}
	case 4:
		return []api.Body{{}, {Metric: 0x010203}, {Metric: 1<<24 - 1}}
	case 5, 7:
		return []api.Body{{}, {Type2: true}, {Mask: mask, Metric: 0x010203, Forward: 0x04050607, Tag: 0x08090A0B}, {Mask: far, Type2: true, Metric: 1<<24 - 1, Forward: far, Tag: far}}
	}
	return []api.Body{{}, {Data: []byte{1, 2, 3, 4}}, {Data: make([]byte, 400)}, {Data: bytes.Repeat([]byte{255, 0, 7}, 4)}}
}

// headOf: one whose bytes are all unlike.
func headOf(kind uint8) api.Head {
	return api.Head{Age: 0x0102, Opts: 3, Type: kind, ID: 0x14151617, Adv: 0x18191A1B, Seq: 0x1C1D1E1F, Sum: 0x2021, Len: 0x2223}
}

// made: the state of a body that may be.
func made(t *testing.T, h api.Head, b api.Body) api.State {
	t.Helper()
	s, e := state.Encode(h, b)
	if e != api.OK {
		t.Fatalf("Encode of %v, %v: %d", h, plain(b), e)
	}
	return s
}

func wantBytes(t *testing.T, what string, got, want []byte) {
	t.Helper()
	if !bytes.Equal(got, want) {
		t.Errorf("%s: %v; want %v", what, got, want)
	}
}

// wantEncode asks for a refusal, or for the state that the words ask for.
func wantEncode(t *testing.T, what string, h api.Head, b api.Body, want api.Errno) {
	t.Helper()
	s, e := state.Encode(h, b)
	if e != want {
		t.Errorf("%s: Encode of Type %d: error %d; want %d", what, h.Type, e, want)
		return
	}
	if want != api.OK {
		if !reflect.DeepEqual(s, api.State{}) {
			t.Errorf("R2: %s: a state beside the error %d", what, e)
		}
		return
	}
	wantBytes(t, what, s.Body, laid(h.Type, b))
	h.Len, h.Sum = uint16(20+len(s.Body)), s.Head.Sum
	if s.Head != h {
		t.Errorf("%s: the head %v; want %v", what, s.Head, h)
	}
	if h.Sum/256 == 0 || h.Sum%256 == 0 || !sum.Whole(state.Bytes(s)[2:]) {
		t.Errorf("P6.2: %s: the sum %#x is not right", what, h.Sum)
	}
}

func wantDecode(t *testing.T, what string, s api.State, want api.Body, no api.Errno) {
	t.Helper()
	if b, e := state.Decode(s); e != no || !sameBody(b, want) {
		t.Errorf("%s: Decode of Type %d, %v: %v, %d; want %v, %d", what, s.Head.Type, s.Body, b, e, want, no)
	}
}

func wantCheck(t *testing.T, what string, s api.State, want api.Errno) {
	t.Helper()
	if e := state.Check(s); e != want {
		t.Errorf("%s: Check of %v: %d; want %d", what, s.Head, e, want)
	}
}

func wantRead(t *testing.T, what string, b []byte, want api.State, count int, no api.Errno) {
	t.Helper()
	if s, n, e := state.Read(b); e != no || n != count || !sameState(s, want) {
		t.Errorf("%s: Read of %d bytes: %v, %d, %d; want %v, %d, %d", what, len(b), s.Head, n, e, want.Head, count, no)
	}
}

// row: a state of these bytes, whose Len tells them.
func row(kind uint8, b ...byte) api.State {
	return api.State{Head: api.Head{Type: kind, Len: uint16(20 + len(b))}, Body: b}
}

// reseal: s with the right Len and Sum, whatever else is wrong with it.
func reseal(t *testing.T, s api.State) api.State {
	t.Helper()
	x, e := state.Seal(s)
	if e != api.OK {
		t.Fatalf("Seal of %v: %d", s.Head, e)
	}
	return x
}

func TestExamples(t *testing.T) {
	wantEncode(t, "example", api.Head{Type: 3, Seq: 1}, api.Body{Mask: 0xFFFFFF00, Metric: 10}, api.OK)
	s := made(t, api.Head{Type: 3, Seq: 1}, api.Body{Mask: 0xFFFFFF00, Metric: 10})
	if s.Head.Len != 28 {
		t.Errorf("example: Len %d, not 28", s.Head.Len)
	}
	wantBytes(t, "example", s.Body, []byte{255, 255, 255, 0, 0, 0, 0, 10})
	wantEncode(t, "example", api.Head{Type: 3}, api.Body{Mask: 0xFF00FF00}, api.ErrBody)
	wantEncode(t, "example", api.Head{Type: 3}, api.Body{Metric: 1 << 24}, api.ErrBody)
	wantEncode(t, "example", api.Head{Type: 6}, api.Body{}, api.ErrType)
	wantEncode(t, "example", api.Head{Type: 2}, api.Body{}, api.ErrBody)
	wantDecode(t, "example", row(1, 1, 0, 0, 0), api.Body{Flags: 1}, api.OK)
	longer := row(1, 1, 0, 0, 0)
	longer.Head.Len = 25
	wantDecode(t, "example", longer, api.Body{}, api.ErrLength)
	wantDecode(t, "example", row(1, 1, 0, 0, 1), api.Body{}, api.ErrBody)
	wantCheck(t, "example", s, api.OK)
	older := s
	older.Head.Age += 3599
	wantCheck(t, "example, older", older, api.OK)
	older.Head.Age = 3601
	wantCheck(t, "example, too old", older, api.ErrField)
	wantCheck(t, "example, another metric", api.State{Head: s.Head, Body: []byte{255, 255, 255, 0, 0, 0, 0, 11}}, api.ErrSum)
	b := state.Bytes(s)
	wantRead(t, "example", append(bytes.Clone(b), 1, 2, 3), s, 28, api.OK)
	wantRead(t, "example", b[:27], api.State{}, 0, api.ErrShort)
	wantRead(t, "example", b[:19], api.State{}, 0, api.ErrShort)
}

func TestKeyHeadBytes(t *testing.T) {
	h := headOf(9)
	if k := state.Key(h); k != (api.Key{Type: 9, ID: h.ID, Adv: h.Adv}) {
		t.Errorf("P6.1: Key: %v", k)
	}
	twenty := []byte{1, 2, 3, 9, 20, 21, 22, 23, 24, 25, 26, 27, 28, 29, 30, 31, 32, 33, 34, 35}
	wantBytes(t, "P6.1: Head", state.Head(h), twenty)
	wantBytes(t, "P6.1: Head of nothing", state.Head(api.Head{}), make([]byte, 20))
	full := api.Head{Age: 65535, Opts: 255, Type: 255, ID: math.MaxUint32, Adv: math.MaxUint32, Seq: -1, Sum: 65535, Len: 65535}
	wantBytes(t, "P6.1: Head, all ones", state.Head(full), bytes.Repeat([]byte{255}, 20))
	for seq, want := range map[int32][]byte{math.MinInt32: {128, 0, 0, 0}, api.FirstSeq: {128, 0, 0, 1}, -5: {255, 255, 255, 251}, math.MaxInt32: {127, 255, 255, 255}} {
		wantBytes(t, "P6.1: Head: Seq goes round", state.Head(api.Head{Seq: seq})[12:16], want)
	}
	wantBytes(t, "P6.1: Bytes, whatever Len is", state.Bytes(api.State{Head: h, Body: []byte{7, 8, 9}}), append(twenty, 7, 8, 9))
	wantBytes(t, "P6.1: Bytes without a body", state.Bytes(api.State{Head: h}), twenty[:20])
	long := bytes.Repeat([]byte{5}, 70000)
	wantBytes(t, "P6.1: Bytes of more than Len can tell", state.Bytes(api.State{Head: h, Body: long}), append(twenty[:20:20], long...))
}

func TestEncode(t *testing.T) {
	for _, kind := range kinds {
		for _, b := range some(kind) {
			h := headOf(kind)
			wantEncode(t, "P6.2", h, b, api.OK)
			h.Age, h.Seq = 65535, math.MinInt32
			wantEncode(t, "P6.2: a head is taken as it is", h, b, api.OK)
			twin := h
			twin.Len, twin.Sum = 0, 0
			if !sameState(made(t, h, b), made(t, twin, b)) {
				t.Errorf("P6.2: Type %d: what Len and Sum were counts", kind)
			}
		}
	}
}

func TestEncodeTypes(t *testing.T) {
	broken := api.Body{Flags: 1, Mask: 5, Metric: 1 << 30, Data: make([]byte, 70001)}
	for kind := range 256 {
		if slices.Contains(kinds, uint8(kind)) {
			wantEncode(t, "P6.2: a body that none may be", headOf(uint8(kind)), broken, api.ErrBody)
			continue
		}
		wantEncode(t, "P6.2: no Type", headOf(uint8(kind)), api.Body{}, api.ErrType)
		wantEncode(t, "P6.2: no Type, ahead of the rest", headOf(uint8(kind)), broken, api.ErrType)
	}
}

// TestEncodeFields: what a Type has no bytes for must be zero; a list without elements is none (R4).
func TestEncodeFields(t *testing.T) {
	fields := []struct {
		name  string
		kinds []uint8
		set   func(b *api.Body)
	}{
		{"Flags", []uint8{1}, func(b *api.Body) { b.Flags = 1 }},
		{"Links", []uint8{1}, func(b *api.Body) { b.Links = []api.Link{{Type: 1}} }},
		{"Mask", []uint8{2, 3, 5, 7}, func(b *api.Body) { b.Mask = 0xFF000000 }},
		{"Routers", []uint8{2}, func(b *api.Body) { b.Routers = []uint32{0} }},
		{"Metric", []uint8{3, 4, 5, 7}, func(b *api.Body) { b.Metric = 1 }},
		{"Type2", []uint8{5, 7}, func(b *api.Body) { b.Type2 = true }},
		{"Forward", []uint8{5, 7}, func(b *api.Body) { b.Forward = 1 }},
		{"Tag", []uint8{5, 7}, func(b *api.Body) { b.Tag = 1 }},
		{"Data", []uint8{9, 10, 11}, func(b *api.Body) { b.Data = make([]byte, 4) }},
	}
	for _, kind := range kinds {
		for _, b := range some(kind) {
			for _, f := range fields {
				other, want := b, api.ErrBody
				if slices.Contains(f.kinds, kind) {
					want = api.OK
				}
				f.set(&other)
				wantEncode(t, "P6.2: "+f.name, headOf(kind), other, want)
			}
			if len(b.Links) == 0 {
				b.Links = []api.Link{}
			}
			if len(b.Routers) == 0 {
				b.Routers = []uint32{}
			}
			if len(b.Data) == 0 {
				b.Data = []byte{}
			}
			wantEncode(t, "R4", headOf(kind), b, api.OK)
		}
	}
}

func TestEncodeMayBe(t *testing.T) {
	masked := map[uint8]api.Body{2: {Routers: []uint32{1}}, 3: {}, 5: {}, 7: {}}
	for kind, b := range masked {
		for n := range 33 {
			b.Mask = uint32(math.MaxUint32 << (32 - n) & math.MaxUint32)
			wantEncode(t, "P6.2: a mask", headOf(kind), b, api.OK)
		}
		for _, no := range []uint32{1, 0x7FFFFFFF, 0xFF00FF00, 0xFFFFFFFD, 0x80000001, 0xFEFFFFFF} {
			b.Mask = no
			wantEncode(t, "P6.2: no mask", headOf(kind), b, api.ErrBody)
		}
	}
	for _, mask := range []uint32{1, 1 << 31, math.MaxUint32} {
		wantEncode(t, "P6.2: a border's mask", headOf(4), api.Body{Mask: mask}, api.ErrBody)
	}
	for _, kind := range []uint8{3, 4, 5, 7} {
		wantEncode(t, "P6.2: Infinity", headOf(kind), api.Body{Metric: 16777215}, api.OK)
		for _, metric := range []uint32{1 << 24, 1<<24 + 1, 1 << 31, math.MaxUint32} {
			wantEncode(t, "P6.2: above Infinity", headOf(kind), api.Body{Metric: metric}, api.ErrBody)
		}
	}
	for kind := range 256 {
		want := api.ErrBody
		if kind >= 1 && kind <= 4 {
			want = api.OK
		}
		wantEncode(t, "P6.2: a link's Type", headOf(1), api.Body{Links: []api.Link{{Type: uint8(kind)}}}, want)
		wantEncode(t, "P6.2: the last link's Type", headOf(1), api.Body{Links: []api.Link{{Type: 1}, {Type: 4}, {Type: uint8(kind)}}}, want)
	}
	for n := range 14 {
		want := api.OK
		if n%4 != 0 {
			want = api.ErrBody
		}
		for _, kind := range []uint8{9, 10, 11} {
			wantEncode(t, "P6.2: a multiple of four", headOf(kind), api.Body{Data: make([]byte, n)}, want)
		}
	}
}

// TestEncodeLong: at 65,535 bytes, one part beyond, far beyond; what may not be is told ahead.
func TestEncodeLong(t *testing.T) {
	links := func(n int) api.Body { return api.Body{Links: slices.Repeat([]api.Link{{Type: 3, Cost: 1}}, n)} }
	routers := func(n int) api.Body { return api.Body{Routers: make([]uint32, n)} }
	data := func(n int) api.Body { return api.Body{Data: make([]byte, n)} }
	for _, c := range []struct {
		kind uint8
		fill func(n int) api.Body
		n    int
		want api.Errno
	}{
		{1, links, 5459, api.OK}, {1, links, 5460, api.ErrLong}, {1, links, 65535, api.ErrLong}, {1, links, 65536, api.ErrLong}, {1, links, 65537, api.ErrLong},
		{2, routers, 16377, api.OK}, {2, routers, 16378, api.ErrLong}, {2, routers, 65536, api.ErrLong},
		{9, data, 65512, api.OK}, {10, data, 65516, api.ErrLong}, {11, data, 1 << 20, api.ErrLong},
		{9, data, 65513, api.ErrBody}, {10, data, 65515, api.ErrBody}, {11, data, 1<<20 + 2, api.ErrBody},
	} {
		wantEncode(t, "P6.2: long", headOf(c.kind), c.fill(c.n), c.want)
		if c.want == api.ErrLong {
			b := c.fill(c.n)
			b.Tag = 1
			wantEncode(t, "P6.2: long, and more than its Type has", headOf(c.kind), b, api.ErrBody)
		}
	}
	for _, n := range []int{5461, 65536} {
		b := links(n)
		b.Links[n-1].Type = 5
		wantEncode(t, "P6.2: long, the last link none", headOf(1), b, api.ErrBody)
	}
	b := routers(20000)
	b.Mask = 5
	wantEncode(t, "P6.2: long, without a mask", headOf(2), b, api.ErrBody)
}

func TestDecode(t *testing.T) {
	for _, kind := range kinds {
		for _, b := range some(kind) {
			s := row(kind, laid(kind, b)...)
			wantDecode(t, "P6.3", s, b, api.OK)
			s.Head.Seq, s.Head.Age, s.Head.Sum = math.MinInt32, 65535, 1
			wantDecode(t, "P6.3: nothing else is asked", s, b, api.OK)
			for _, off := range []uint16{1, 65535, 20, 32768} {
				x := s
				x.Head.Len += off
				wantDecode(t, "P6.3: another Len", x, api.Body{}, api.ErrLength)
			}
		}
	}
	round := row(9, make([]byte, 65536)...)
	wantDecode(t, "P6.3: a Len that goes round", round, api.Body{}, api.ErrLength)
	wantDecode(t, "P6.3: no bytes at all", api.State{}, api.Body{}, api.ErrLength)
	wantDecode(t, "P6.3: no bytes at all, of a Type", api.State{Head: api.Head{Type: 9}}, api.Body{}, api.ErrLength)
	for kind := range 256 {
		if slices.Contains(kinds, uint8(kind)) {
			continue
		}
		s := row(uint8(kind), 1, 2, 3)
		wantDecode(t, "P6.3: no Type", s, api.Body{}, api.ErrType)
		s.Head.Len++
		wantDecode(t, "P6.3: no Type, and another Len", s, api.Body{}, api.ErrLength)
	}
}

// holds: Decode of the bytes is as the table's words have it; what it reads is written as the same bytes.
func holds(t *testing.T, kind uint8, b []byte) {
	t.Helper()
	s := row(kind, b...)
	body, e := state.Decode(s)
	if !may(kind, b) {
		if e != api.ErrBody || !sameBody(body, api.Body{}) {
			t.Errorf("P6.3: Type %d, %v: %v, %d; want none, ErrBody", kind, b, body, e)
		}
		return
	}
	if e != api.OK || !bytes.Equal(laid(kind, body), b) {
		t.Errorf("P6.3: Type %d, %v: %v, %d; want its body", kind, b, body, e)
		return
	}
	x, e := state.Encode(s.Head, body)
	if e != api.OK || !sameState(x, reseal(t, s)) {
		t.Errorf("what follows: Encode of Decode of Type %d, %v: %v, %d", kind, b, x, e)
	}
}

func TestDecodeBytes(t *testing.T) {
	for _, kind := range kinds {
		for n := range 60 {
			holds(t, kind, make([]byte, n))
			holds(t, kind, bytes.Repeat([]byte{255}, n))
		}
		for _, body := range some(kind) {
			whole := laid(kind, body)
			for n := range min(len(whole), 60) {
				holds(t, kind, whole[:n])
			}
			for i := range min(len(whole), 60) {
				for v := 0; v < 256; v += 1 + len(whole)/200 { // fewer of long ones, for the time it takes
					b := bytes.Clone(whole)
					b[i] = byte(v)
					holds(t, kind, b)
				}
			}
			for more := range 14 {
				holds(t, kind, append(bytes.Clone(whole), make([]byte, more)...))
				holds(t, kind, append(bytes.Clone(whole), bytes.Repeat([]byte{1}, more)...))
			}
		}
	}
	most := laid(1, api.Body{Links: slices.Repeat([]api.Link{{Type: 3}}, 5459)})
	holds(t, 1, most)
	holds(t, 1, most[:len(most)-12])
	holds(t, 2, make([]byte, 65512))
	holds(t, 9, make([]byte, 65512))
	holds(t, 9, make([]byte, 65515))
}

func TestCheck(t *testing.T) {
	for _, kind := range kinds {
		for _, b := range some(kind) {
			h := headOf(kind)
			for _, seq := range []int32{api.FirstSeq, -1, 0, 1, api.LastSeq} {
				for _, age := range []uint16{0, 1, 3599, 3600, 0x8000, 0x8000 + 3600} {
					h.Seq, h.Age = seq, age
					wantCheck(t, "what follows: what Encode makes", made(t, h, b), api.OK)
				}
			}
			h.Seq = math.MinInt32
			wantCheck(t, "P6.4: no Seq", made(t, h, b), api.ErrField)
			h.Seq = 1
			for _, age := range []uint16{3601, 0x7FFF, 0x8000 + 3601, 0xFFFF} {
				h.Age = age
				wantCheck(t, "P6.4: above MaxAge", made(t, h, b), api.ErrField)
			}
		}
	}
}

// TestCheckOrder heals one thing after the other, in the order in which they are named.
func TestCheckOrder(t *testing.T) {
	s := api.State{Head: api.Head{Type: 6, Seq: math.MinInt32, Age: 3601}, Body: []byte{255, 255, 255, 0, 1, 0, 0, 10}}
	wantCheck(t, "P6.4: all is wrong", s, api.ErrLength)
	s.Head.Len = 28
	wantCheck(t, "P6.4: Sum is 0, and more", s, api.ErrSum)
	s.Head.Sum = 0x1234
	wantCheck(t, "P6.4: Sum is another, and more", s, api.ErrSum)
	wantCheck(t, "P6.4: no Type, and more", reseal(t, s), api.ErrType)
	s.Head.Type = 3
	wantCheck(t, "P6.4: no Seq, too old, no body", reseal(t, s), api.ErrField)
	s.Head.Seq = 1
	wantCheck(t, "P6.4: too old, no body", reseal(t, s), api.ErrField)
	s.Head.Age = 3600
	wantCheck(t, "P6.4: no body", reseal(t, s), api.ErrBody)
	s.Body[4] = 0
	wantCheck(t, "P6.4: healed", reseal(t, s), api.OK)
	for kind := range 256 {
		want := api.ErrType
		if slices.Contains(kinds, uint8(kind)) {
			want = api.ErrBody
		}
		wantCheck(t, "P6.4: three bytes", reseal(t, api.State{Head: api.Head{Type: uint8(kind)}, Body: []byte{1, 2, 3}}), want)
	}
}

func TestCheckLength(t *testing.T) {
	s := made(t, api.Head{Type: 9}, api.Body{Data: make([]byte, 8)})
	for _, off := range []uint16{1, 4, 65535, 65516, 65536 - 28} {
		x := s
		x.Head.Len += off
		wantCheck(t, "P6.4: another Len", x, api.ErrLength)
	}
	round := api.State{Head: api.Head{Type: 9, Sum: 1, Len: 20}, Body: make([]byte, 65536)}
	wantCheck(t, "P6.4: a Len that goes round", round, api.ErrLength)
	wantCheck(t, "P6.4: nothing", api.State{}, api.ErrLength)
}

// TestCheckNoSum: bytes whose two sums are 0 with Sum 0, too, so that nothing but that tells it.
func TestCheckNoSum(t *testing.T) {
	s := reseal(t, api.State{Head: api.Head{Type: 9, Seq: 1}, Body: make([]byte, 400)})
	found := false
	for at := range 200 {
		// These two sums must be 0 without Sum: two bytes of the body take its part.
		x := api.State{Head: s.Head, Body: bytes.Clone(s.Body)}
		x.Head.Sum = 0
		f, _ := sum.Fletcher(state.Bytes(x)[2:], 18+at)
		x.Body[at], x.Body[at+1] = byte(f>>8), byte(f)
		found = found || sum.Whole(state.Bytes(x)[2:])
		wantCheck(t, "P6.4: Sum is 0", x, api.ErrSum)
		x.Head.Sum = 0xFFFF
		wantCheck(t, "P6.4: Sum's bytes are 255", x, api.OK)
	}
	if !found {
		t.Error("no bytes with sums that are 0 were asked")
	}
}

// TestCheckChanges: whichever byte behind Age's is changed, but 0 to 255 and back, is told.
func TestCheckChanges(t *testing.T) {
	for _, kind := range kinds {
		for _, body := range some(kind)[:3] {
			h := headOf(kind)
			s := made(t, h, body)
			whole := state.Bytes(s)
			for i := range min(len(whole), 80) {
				for v := range 256 {
					b := bytes.Clone(whole)
					b[i] = byte(v)
					x, e := state.ReadHead(b)
					if e != api.OK {
						t.Fatalf("P6.5: ReadHead: %d", e)
					}
					got := state.Check(api.State{Head: x, Body: b[20:]})
					same := b[i] == whole[i] || b[i]^whole[i] == 255 && (v == 0 || v == 255)
					if i >= 2 && !same && got == api.OK {
						t.Errorf("what follows: Type %d: byte %d, changed from %d to %d, is not told", kind, i, whole[i], v)
					}
					if i < 2 && x.Age%32768 <= 3600 && got != api.OK {
						t.Errorf("what follows: Type %d, Age %d: %d", kind, x.Age, got)
					}
				}
			}
		}
	}
}

func TestSeal(t *testing.T) {
	for _, n := range []int{0, 1, 2, 3, 8, 254, 255, 256, 4095, 65514, 65515} {
		for _, kind := range []uint8{0, 1, 6, 255} {
			body := make([]byte, n)
			for i := range body {
				body[i] = byte(i*7 + n)
			}
			s := api.State{Head: headOf(kind), Body: body}
			s.Head.Seq, s.Head.Age = math.MinInt32, 65535
			x, e := state.Seal(s)
			want := s.Head
			want.Len, want.Sum = uint16(20+n), x.Head.Sum
			if e != api.OK || x.Head != want || !bytes.Equal(x.Body, body) {
				t.Errorf("P6.4: Seal of %d bytes: %v, %d; want %v", n, x.Head, e, want)
			}
			f, _ := sum.Fletcher(state.Bytes(x)[2:], 14)
			if f != x.Head.Sum || !sum.Whole(state.Bytes(x)[2:]) {
				t.Errorf("P6.4: Seal of %d bytes: Sum %#x; want %#x", n, x.Head.Sum, f)
			}
			if again := reseal(t, x); !sameState(again, x) {
				t.Errorf("P6.4: sealed again: %v, not %v", again.Head, x.Head)
			}
		}
	}
	for _, n := range []int{65516, 65536, 131072, 1 << 20} {
		if x, e := state.Seal(api.State{Head: headOf(9), Body: make([]byte, n)}); e != api.ErrLong || !reflect.DeepEqual(x, api.State{}) {
			t.Errorf("P6.4: Seal of a body of %d bytes: %v, %d", n, x.Head, e)
		}
	}
}

func TestReadHead(t *testing.T) {
	heads := []api.Head{{}, headOf(1), headOf(255), {Age: 65535, Opts: 255, Type: 7, ID: math.MaxUint32, Adv: 1, Seq: -5, Sum: 65535, Len: 3}, {Seq: math.MinInt32}, {Seq: math.MaxInt32, Len: 65535}}
	for _, h := range heads {
		b := state.Head(h)
		for n := range 20 {
			if x, e := state.ReadHead(b[:n]); e != api.ErrShort || x != (api.Head{}) {
				t.Errorf("P6.5: ReadHead of %d bytes: %v, %d", n, x, e)
			}
		}
		for _, row := range [][]byte{b, append(bytes.Clone(b), 255), append(bytes.Clone(b), make([]byte, 70000)...)} {
			if x, e := state.ReadHead(row); e != api.OK || x != h {
				t.Errorf("P6.5: ReadHead of Head of %v: %v, %d", h, x, e)
			}
		}
	}
	if x, e := state.ReadHead(nil); e != api.ErrShort || x != (api.Head{}) {
		t.Errorf("P6.5: ReadHead of nothing: %v, %d", x, e)
	}
}

func TestRead(t *testing.T) {
	wantRead(t, "P6.5: nothing", nil, api.State{}, 0, api.ErrShort)
	body := bytes.Repeat([]byte{1, 2, 3, 4, 5}, 14000)
	for _, size := range []int{20, 21, 28, 255, 256, 65534, 65535} {
		h := headOf(77)
		h.Len = uint16(size)
		b := append(state.Head(h), body[:size-20]...)
		s := api.State{Head: h, Body: body[:size-20]}
		wantRead(t, "P6.5: just so many", b, s, size, api.OK)
		wantRead(t, "P6.5: one more", append(bytes.Clone(b), 9), s, size, api.OK)
		wantRead(t, "P6.5: many more", append(bytes.Clone(b), body...), s, size, api.OK)
		wantRead(t, "P6.5: one less", b[:size-1], api.State{}, 0, api.ErrShort)
		wantRead(t, "P6.5: less than a head", b[:19], api.State{}, 0, api.ErrShort)
	}
	for size := range 20 {
		h := headOf(1)
		h.Len = uint16(size)
		wantRead(t, "P6.5: Len below 20", append(state.Head(h), body...), api.State{}, 0, api.ErrLength)
		wantRead(t, "P6.5: Len below 20, no more bytes", state.Head(h), api.State{}, 0, api.ErrLength)
		wantRead(t, "P6.5: Len below 20, less than a head", state.Head(h)[:19], api.State{}, 0, api.ErrShort)
	}
}

// mixed: a body of that Type that may be, of chance.
func mixed(r *rand.Rand, kind uint8) api.Body {
	mask := uint32(math.MaxUint32 << r.IntN(33) & math.MaxUint32)
	metric := r.Uint32N(1 << 24)
	switch kind {
	case 1:
		b := api.Body{Flags: uint8(r.Uint32())}
		for range r.IntN(9) {
			b.Links = append(b.Links, api.Link{ID: r.Uint32(), Data: r.Uint32(), Type: uint8(1 + r.IntN(4)), Cost: uint16(r.Uint32())})
		}
		return b
	case 2:
		b := api.Body{Mask: mask, Routers: []uint32{r.Uint32()}}
		for range r.IntN(9) {
			b.Routers = append(b.Routers, r.Uint32())
		}
		return b
	case 3:
		return api.Body{Mask: mask, Metric: metric}
	case 4:
		return api.Body{Metric: metric}
	case 5, 7:
		return api.Body{Mask: mask, Type2: r.IntN(2) == 1, Metric: metric, Forward: r.Uint32(), Tag: r.Uint32()}
	}
	b := api.Body{}
	for range 4 * r.IntN(9) {
		b.Data = append(b.Data, uint8(r.Uint32()))
	}
	return b
}

// TestThereAndBack: what follows, of bodies and heads of chance; and all of them as one row of bytes.
func TestThereAndBack(t *testing.T) {
	r := rand.New(rand.NewPCG(6, 6))
	var all []byte
	var states []api.State
	for range 300 {
		for _, kind := range kinds {
			b := mixed(r, kind)
			h := api.Head{Age: uint16(r.IntN(3601)), Opts: uint8(r.Uint32()), Type: kind, ID: r.Uint32(), Adv: r.Uint32(), Seq: max(int32(r.Uint32()), api.FirstSeq)}
			wantEncode(t, "P6.2: of chance", h, b, api.OK)
			s := made(t, h, b)
			wantDecode(t, "what follows: Decode of Encode", s, b, api.OK)
			wantCheck(t, "what follows: Check of Encode", s, api.OK)
			all = append(all, state.Bytes(s)...)
			states = append(states, s)
		}
	}
	for i, want := range states {
		s, n, e := state.Read(all)
		if e != api.OK || !sameState(s, want) || n != len(want.Body)+20 {
			t.Fatalf("what follows: Read of Bytes: the state %d: %v, %d, %d; want %v", i, s, n, e, want)
		}
		all = all[n:]
	}
	if len(all) != 0 {
		t.Errorf("what follows: %d bytes are left", len(all))
	}
}

// roomy: a copy of l with spare room, in which fill stands.
func roomy[T any](l []T, fill T) []T {
	wide := append(slices.Clone(l), fill, fill, fill)
	return wide[:len(l)]
}

// spoil overwrites a list and its spare room.
func spoil[T any](l []T, with T) {
	l = l[:cap(l)]
	for i := range l {
		l[i] = with
	}
}

// wantSpare: the room behind a list still holds what roomy laid there.
func wantSpare[T comparable](t *testing.T, l []T, fill T) {
	t.Helper()
	for _, v := range l[len(l) : len(l)+3] {
		if v != fill {
			t.Errorf("R5: spare room holds %v, not %v", v, fill)
		}
	}
}

func TestEncodeMemory(t *testing.T) {
	for _, kind := range kinds {
		for _, b := range some(kind) {
			x := b
			x.Links, x.Routers, x.Data = roomy(b.Links, api.Link{ID: 9}), roomy(b.Routers, 9), roomy(b.Data, 9)
			s := made(t, headOf(kind), x)
			want := bytes.Clone(s.Body)
			if !sameBody(x, b) {
				t.Errorf("R5: Type %d: Encode changed its body", kind)
			}
			wantSpare(t, x.Links, api.Link{ID: 9})
			wantSpare(t, x.Routers, 9)
			wantSpare(t, x.Data, 9)
			spoil(x.Data, 77)
			wantBytes(t, "R5: Encode kept Data", s.Body, want)
			x.Data = roomy(b.Data, 9)
			s = made(t, headOf(kind), x)
			spoil(s.Body, 77)
			if !sameBody(x, b) {
				t.Errorf("R5: Type %d: Encode answers its argument's memory", kind)
			}
			wantSpare(t, x.Data, 9)
		}
	}
}

func TestStateMemory(t *testing.T) {
	for _, kind := range kinds {
		for _, b := range some(kind) {
			s := made(t, headOf(kind), b)
			want := bytes.Clone(s.Body)
			s.Body = roomy(s.Body, 9)
			body, _ := state.Decode(s)
			state.Check(s)
			x, _ := state.Seal(s)
			row := state.Bytes(s)
			spoil(body.Data, 77)
			spoil(x.Body, 77)
			spoil(row, 77)
			wantBytes(t, "R5: an answer shares an argument's memory", s.Body, want)
			wantSpare(t, s.Body, 9)
			body, _ = state.Decode(s)
			x, _ = state.Seal(s)
			row = state.Bytes(s)
			spoil(s.Body, 77)
			wantBytes(t, "R5: Seal kept its argument", x.Body, want)
			wantBytes(t, "R5: Bytes kept its argument", row[20:], want)
			if !sameBody(body, b) {
				t.Errorf("R5: Type %d: Decode kept its argument", kind)
			}
		}
	}
}

func TestReadMemory(t *testing.T) {
	s := made(t, headOf(9), api.Body{Data: []byte{1, 2, 3, 4, 5, 6, 7, 8}})
	whole := append(state.Bytes(s), 30, 31, 32)
	row := roomy(whole, 9)
	x, n, e := state.Read(row)
	if e != api.OK || n != 28 {
		t.Fatalf("P6.5: Read: %d, %d", n, e)
	}
	spoil(x.Body, 77)
	wantBytes(t, "R5: Read answers its argument's memory", row, whole)
	wantSpare(t, row, 9)
	x, _, _ = state.Read(row)
	spoil(row, 77)
	wantBytes(t, "R5: Read kept its argument", x.Body, s.Body)
	h := headOf(1)
	spoil(state.Head(h), 77)
	if again, e := state.ReadHead(state.Head(h)); e != api.OK || again != h {
		t.Errorf("R5: Head answers one memory twice: %v, %d", again, e)
	}
}
