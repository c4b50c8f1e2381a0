package octet_test

import (
	"bytes"
	"math"
	"testing"

	"lodestar/api"
	"lodestar/octet"
)

// wantReader fails unless the reader's place, bytes left and error are these.
func wantReader(t *testing.T, what string, r *octet.Reader, at, left int, e api.Errno) {
	t.Helper()
	if r.At() != at || r.Left() != left || r.Err() != e {
		t.Errorf("%s: at %d, left %d, error %d; want at %d, left %d, error %d", what, r.At(), r.Left(), r.Err(), at, left, e)
	}
}

func wantBytes(t *testing.T, what string, got, want []byte) {
	t.Helper()
	if !bytes.Equal(got, want) {
		t.Errorf("%s: %v; want %v", what, got, want)
	}
}

func wantNumber(t *testing.T, what string, got, want uint32) {
	t.Helper()
	if got != want {
		t.Errorf("%s: %d; want %d", what, got, want)
	}
}

func TestReadIsWholeAtPlaceNought(t *testing.T) {
	wantReader(t, "P1.1: Read of three", octet.Read([]byte{1, 2, 3}), 0, 3, api.OK)
	wantReader(t, "P1.1: Read of none", octet.Read([]byte{}), 0, 0, api.OK)
	wantReader(t, "P1.1: Read of nil", octet.Read(nil), 0, 0, api.OK)
}

func TestReadTakesACopy(t *testing.T) {
	b := []byte{1, 2, 3, 4}
	r := octet.Read(b[:3])
	b[0], b[3] = 9, 9
	wantBytes(t, "P1.1: what Read was given is changed behind it", r.Bytes(3), []byte{1, 2, 3})
	wantReader(t, "P1.1: spare room is not read", r, 3, 0, api.OK)
	wantBytes(t, "R5: the argument", b, []byte{9, 2, 3, 9})
}

func TestReaderNumberOfEachSize(t *testing.T) {
	b := []byte{0x81, 0x02, 0xFF, 0x04, 0x05}
	for n, want := range []uint32{1: 0x81, 2: 0x8102, 3: 0x8102FF, 4: 0x8102FF04} {
		if n == 0 {
			continue
		}
		r := octet.Read(b)
		wantNumber(t, "P1.2: Number", r.Number(n), want)
		wantReader(t, "P1.2: behind Number", r, n, 5-n, api.OK)
	}
	r := octet.Read([]byte{255, 255, 255, 255})
	wantNumber(t, "P1.2: the greatest", r.Number(4), math.MaxUint32)
	wantReader(t, "P1.2: just so many", r, 4, 0, api.OK)
}

func TestReaderNumberRefuses(t *testing.T) {
	for _, c := range []struct {
		have, n int
		e       api.Errno
	}{
		{9, 0, api.ErrArg}, {9, -1, api.ErrArg}, {9, 5, api.ErrArg}, {9, math.MinInt, api.ErrArg}, {9, math.MaxInt, api.ErrArg},
		{0, 1, api.ErrShort}, {0, 4, api.ErrShort}, {1, 2, api.ErrShort}, {3, 4, api.ErrShort},
		{0, 0, api.ErrArg}, {0, 5, api.ErrArg}, {0, -1, api.ErrArg},
	} {
		b := bytes.Repeat([]byte{7}, c.have+1)
		r := octet.Read(b)
		r.Number(1)
		wantNumber(t, "P1.2: a number that is refused", r.Number(c.n), 0)
		wantReader(t, "P1.2: behind a number that is refused", r, 1, 0, c.e)
	}
}

func TestReaderBytes(t *testing.T) {
	r := octet.Read([]byte{1, 2, 3, 4})
	wantBytes(t, "P1.2: Bytes(0)", r.Bytes(0), nil)
	wantReader(t, "P1.2: behind Bytes(0)", r, 0, 4, api.OK)
	wantBytes(t, "P1.2: Bytes(3)", r.Bytes(3), []byte{1, 2, 3})
	wantReader(t, "P1.2: behind Bytes(3)", r, 3, 1, api.OK)
	wantBytes(t, "P1.2: Bytes of all that is left", r.Bytes(1), []byte{4})
	wantBytes(t, "P1.2: Bytes(0) at the end", r.Bytes(0), nil)
	wantReader(t, "P1.2: at the end", r, 4, 0, api.OK)
	wantBytes(t, "P1.2: Bytes past the end", r.Bytes(1), nil)
	wantReader(t, "P1.2: past the end", r, 4, 0, api.ErrShort)
}

// counts: those that Bytes and Part refuse, of a reader with two bytes left.
func counts() map[int]api.Errno {
	return map[int]api.Errno{-1: api.ErrArg, math.MinInt: api.ErrArg, 3: api.ErrShort, math.MaxInt: api.ErrShort}
}

func TestReaderBytesRefuses(t *testing.T) {
	for n, e := range counts() {
		r := octet.Read([]byte{1, 2, 3})
		r.Number(1)
		wantBytes(t, "P1.2: Bytes that are refused", r.Bytes(n), nil)
		wantReader(t, "P1.2: behind Bytes that are refused", r, 1, 0, e)
	}
}

func TestReaderBytesAreNewMemory(t *testing.T) {
	r := octet.Read([]byte{1, 2, 3, 4})
	p := octet.Read([]byte{1, 2, 3, 4}).Part(4)
	for _, r := range []*octet.Reader{r, p} {
		got := r.Bytes(2)
		_ = append(got, 8, 8)
		got = got[:cap(got)]
		for i := range got {
			got[i] = 9
		}
		wantBytes(t, "R5: what is left, when an answer is changed", r.Bytes(2), []byte{3, 4})
	}
}

func TestReaderPart(t *testing.T) {
	r := octet.Read([]byte{1, 2, 3, 4, 5})
	r.Number(1)
	p := r.Part(3)
	wantReader(t, "P1.2: a part", p, 0, 3, api.OK)
	wantReader(t, "P1.2: behind a part", r, 4, 1, api.OK)
	wantNumber(t, "P1.2: of the part", p.Number(3), 0x020304)
	wantReader(t, "P1.2: the part's end", p, 3, 0, api.OK)
	wantNumber(t, "P1.2: past the part's end", p.Number(1), 0)
	wantReader(t, "P1.2: past the part's end", p, 3, 0, api.ErrShort)
	wantReader(t, "P1.2: neither knows of the other", r, 4, 1, api.OK)
	wantNumber(t, "P1.2: behind the part", r.Number(1), 5)
	wantReader(t, "P1.2: an empty part", r.Part(0), 0, 0, api.OK)
	wantReader(t, "P1.2: behind an empty part", r, 5, 0, api.OK)
}

func TestPartOutlivesItsReader(t *testing.T) {
	r := octet.Read([]byte{1, 2, 3})
	p := r.Part(2)
	r.Number(5)
	wantReader(t, "P1.2: a part whose reader is refused later", p, 0, 2, api.OK)
	wantBytes(t, "P1.2: a part whose reader is refused later", p.Bytes(2), []byte{1, 2})
	wantReader(t, "P1.2: a part of a part", octet.Read([]byte{1, 2, 3}).Part(2).Part(3), 0, 0, api.ErrShort)
}

func TestReaderPartRefuses(t *testing.T) {
	for n, e := range counts() {
		r := octet.Read([]byte{1, 2, 3})
		r.Number(1)
		p := r.Part(n)
		wantReader(t, "P1.2: a part that is refused", p, 0, 0, e)
		wantBytes(t, "P1.2: a part that is refused", p.Bytes(0), nil)
		wantReader(t, "P1.2: behind a part that is refused", r, 1, 0, e)
	}
}

func TestReaderThatIsNotWholeStaysSo(t *testing.T) {
	for _, first := range []struct {
		n int
		e api.Errno
	}{{0, api.ErrArg}, {4, api.ErrShort}} {
		r := octet.Read([]byte{1, 2, 3, 4})
		r.Number(1)
		r.Number(first.n)
		for _, n := range []int{-1, 0, 1, 2, 4, 9} {
			wantNumber(t, "not whole: Number", r.Number(n), 0)
			wantBytes(t, "not whole: Bytes", r.Bytes(n), nil)
			wantReader(t, "not whole: Part", r.Part(n), 0, 0, first.e)
			wantReader(t, "not whole: nothing changes", r, 1, 0, first.e)
		}
	}
}

func TestReaderThatWasNotMade(t *testing.T) {
	for what, get := range map[string]func() *octet.Reader{
		"nil":           func() *octet.Reader { return nil },
		"unmade":        func() *octet.Reader { return new(octet.Reader) },
		"nil's part":    func() *octet.Reader { return (*octet.Reader)(nil).Part(0) },
		"unmade's part": func() *octet.Reader { return new(octet.Reader).Part(0) },
	} {
		wantReader(t, "R3: "+what, get(), 0, 0, api.ErrArg)
		for _, n := range []int{-1, 0, 1, 5} {
			r := get()
			wantNumber(t, "R3: Number of "+what, r.Number(n), 0)
			wantBytes(t, "R3: Bytes of "+what, r.Bytes(n), nil)
			wantReader(t, "R3: Part of "+what, r.Part(n), 0, 0, api.ErrArg)
			wantReader(t, "R3: behind all calls of "+what, r, 0, 0, api.ErrArg)
		}
	}
}

func TestReaderExamples(t *testing.T) {
	r := octet.Read([]byte{1, 2, 3, 4, 5})
	wantNumber(t, "example 1", r.Number(2), 258)
	wantNumber(t, "example 1", r.Number(1), 3)
	wantReader(t, "example 1", r, 3, 2, api.OK)
	wantNumber(t, "example 1", r.Number(3), 0)
	wantReader(t, "example 1", r, 3, 0, api.ErrShort)

	r = octet.Read([]byte{1, 2, 3})
	p := r.Part(2)
	wantNumber(t, "example 2", p.Number(2), 258)
	wantNumber(t, "example 2", p.Number(1), 0)
	wantReader(t, "example 2", p, 2, 0, api.ErrShort)
	wantNumber(t, "example 2", r.Number(1), 3)
	wantReader(t, "example 2", r, 3, 0, api.OK)
}

func TestPartsAreTheBytes(t *testing.T) {
	b := make([]byte, 55)
	for i := range b {
		b[i] = byte(7*i + 200)
	}
	r := octet.Read(b)
	var got []byte
	for n := range 11 {
		got = append(got, r.Part(n).Bytes(n)...)
	}
	wantBytes(t, "a reader's parts, one behind the other", got, b)
	wantReader(t, "behind all parts", r, 55, 0, api.OK)
}
