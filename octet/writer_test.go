package octet_test

import (
	"math"
	"testing"

	"lodestar/api"
	"lodestar/octet"
)

// wantWriter fails unless the writer has so many bytes and is done with these.
func wantWriter(t *testing.T, what string, w *octet.Writer, n int, want []byte, e api.Errno) {
	t.Helper()
	got, err := w.Done()
	if err != e || w.Len() != n {
		t.Errorf("%s: %d bytes, error %d; want %d bytes, error %d", what, w.Len(), err, n, e)
	}
	wantBytes(t, what, got, want)
}

func TestWriteIsWholeWithoutBytes(t *testing.T) {
	for _, most := range []int{0, 1, 9, -1, math.MinInt, math.MaxInt} {
		wantWriter(t, "P1.4: new", octet.Write(most), 0, nil, api.OK)
	}
}

func TestWriteUpToMost(t *testing.T) {
	for _, most := range []int{0, -1, math.MinInt} {
		wantWriter(t, "P1.4: no byte", octet.Write(most).Put(), 0, nil, api.OK)
		wantWriter(t, "P1.4: one byte of none", octet.Write(most).Put(1), 0, nil, api.ErrLong)
		wantWriter(t, "P1.4: a number of none", octet.Write(most).Number(0, 1), 0, nil, api.ErrLong)
	}
	wantWriter(t, "P1.4: just so many", octet.Write(3).Put(1).Number(0x0203, 2), 3, []byte{1, 2, 3}, api.OK)
	wantWriter(t, "P1.4: one more", octet.Write(3).Put(1).Number(0x0203, 2).Put(4), 3, nil, api.ErrLong)
	wantWriter(t, "P1.4: a number that ends beyond", octet.Write(3).Put(1).Number(0, 3), 1, nil, api.ErrLong)
	wantWriter(t, "P1.4: bytes that end beyond", octet.Write(3).Put(1).Put(2, 3, 4), 1, nil, api.ErrLong)
	wantWriter(t, "P1.4: as many as can be", octet.Write(math.MaxInt).Put(1).Number(2, 1), 2, []byte{1, 2}, api.OK)
}

func TestWriterNumberOfEachSize(t *testing.T) {
	for _, c := range []struct {
		v    uint32
		n    int
		want []byte
	}{
		{0, 1, []byte{0}}, {0, 4, []byte{0, 0, 0, 0}}, {255, 1, []byte{255}}, {5, 3, []byte{0, 0, 5}},
		{0x8102, 2, []byte{0x81, 2}}, {0xFFFF, 2, []byte{255, 255}}, {0x8102F3, 3, []byte{0x81, 2, 0xF3}}, {0xFFFFFF, 3, []byte{255, 255, 255}},
		{0x8102F304, 4, []byte{0x81, 2, 0xF3, 4}}, {math.MaxUint32, 4, []byte{255, 255, 255, 255}},
	} {
		wantWriter(t, "P1.5: Number", octet.Write(9).Number(c.v, c.n), c.n, c.want, api.OK)
		wantWriter(t, "P1.5: Number behind others", octet.Write(9).Put(7).Number(c.v, c.n), c.n+1, append([]byte{7}, c.want...), api.OK)
	}
}

// wrongNumbers: those that neither Number nor Patch takes.
func wrongNumbers() []struct {
	v uint32
	n int
} {
	return []struct {
		v uint32
		n int
	}{
		{0, 0}, {0, -1}, {0, 5}, {1, math.MinInt}, {1, math.MaxInt},
		{0x100, 1}, {0x10000, 2}, {0x1000000, 3}, {math.MaxUint32, 1}, {math.MaxUint32, 2}, {math.MaxUint32, 3},
	}
}

func TestWriterNumberRefuses(t *testing.T) {
	for _, c := range wrongNumbers() {
		wantWriter(t, "P1.5: Number", octet.Write(9).Put(7).Number(c.v, c.n), 1, nil, api.ErrArg)
		wantWriter(t, "P1.5: ErrArg ahead of ErrLong", octet.Write(0).Number(c.v, c.n), 0, nil, api.ErrArg)
	}
}

func TestWriterPut(t *testing.T) {
	wantWriter(t, "P1.5: Put", octet.Write(9).Put(3).Put().Put(1, 2), 3, []byte{3, 1, 2}, api.OK)
	wantWriter(t, "P1.5: Put of nil", octet.Write(0).Put([]byte(nil)...), 0, nil, api.OK)
}

func TestWriterPutKeepsNothing(t *testing.T) {
	b := []byte{1, 2, 3, 4}
	w := octet.Write(9).Put(b[:2]...)
	b[0] = 9
	w.Put(7)
	w.Patch(1, 8, 1)
	wantWriter(t, "R5: what Put was given is changed behind it", w, 3, []byte{1, 8, 7}, api.OK)
	wantBytes(t, "R5: the argument and its spare room", b, []byte{9, 2, 3, 4})
}

func TestWriterPatch(t *testing.T) {
	for _, c := range []struct {
		at   int
		v    uint32
		n    int
		want []byte
	}{
		{0, 9, 1, []byte{9, 2, 3, 4, 5}}, {4, 9, 1, []byte{1, 2, 3, 4, 9}}, {2, 9, 2, []byte{1, 2, 0, 9, 5}}, {2, 0x060708, 3, []byte{1, 2, 6, 7, 8}},
		{0, 0x06070809, 4, []byte{6, 7, 8, 9, 5}}, {1, math.MaxUint32, 4, []byte{1, 255, 255, 255, 255}},
	} {
		w := octet.Write(5).Put(1, 2, 3, 4, 5)
		w.Patch(c.at, c.v, c.n)
		wantWriter(t, "P1.5: Patch", w, 5, c.want, api.OK)
	}
	w := octet.Write(5).Put(1, 2)
	w.Patch(0, 9, 1)
	wantWriter(t, "P1.5: writing goes on behind", w.Put(3), 3, []byte{9, 2, 3}, api.OK)
}

func TestWriterPatchRefuses(t *testing.T) {
	for _, c := range wrongNumbers() {
		w := octet.Write(9).Put(1, 2, 3, 4, 5, 6)
		w.Patch(0, c.v, c.n)
		wantWriter(t, "P1.5: Patch of a wrong number", w, 6, nil, api.ErrArg)
	}
	for _, c := range []struct{ at, n int }{
		{-1, 1}, {-1, 4}, {math.MinInt, 1}, {3, 1}, {2, 2}, {1, 3}, {0, 4}, {4, 1}, {math.MaxInt, 4},
	} {
		w := octet.Write(9).Put(1, 2, 3)
		w.Patch(c.at, 0, c.n)
		wantWriter(t, "P1.5: Patch of bytes that are not there", w, 3, nil, api.ErrArg)
	}
	w := octet.Write(9)
	w.Patch(0, 0, 1)
	wantWriter(t, "P1.5: Patch of no bytes", w, 0, nil, api.ErrArg)
}

func TestWriterAnswersItself(t *testing.T) {
	broken := octet.Write(0).Put(1)
	for _, w := range []*octet.Writer{octet.Write(9), broken, new(octet.Writer), nil} {
		if w.Put(1) != w || w.Number(1, 1) != w || w.Number(1, 5) != w || w.Put(make([]byte, 9)...) != w {
			t.Errorf("P1.5: another writer is answered")
		}
	}
}

func TestWriterThatIsNotWholeStaysSo(t *testing.T) {
	for what, c := range map[string]struct {
		w *octet.Writer
		e api.Errno
	}{
		"ErrArg":  {octet.Write(4).Put(1, 2).Number(1, 0), api.ErrArg},
		"ErrLong": {octet.Write(4).Put(1, 2).Put(3, 4, 5), api.ErrLong},
	} {
		wantWriter(t, "not whole: Put", c.w.Put(3), 2, nil, c.e)
		wantWriter(t, "not whole: Put of none", c.w.Put(), 2, nil, c.e)
		wantWriter(t, "not whole: Put of too many", c.w.Put(3, 4, 5), 2, nil, c.e)
		wantWriter(t, "not whole: Number", c.w.Number(3, 1), 2, nil, c.e)
		wantWriter(t, "not whole: a wrong Number", c.w.Number(256, 1), 2, nil, c.e)
		c.w.Patch(0, 9, 1)
		wantWriter(t, "not whole: Patch", c.w, 2, nil, c.e)
		c.w.Patch(-1, 9, 9)
		wantWriter(t, "not whole: a wrong Patch behind "+what, c.w, 2, nil, c.e)
	}
}

func TestDoneIsACopy(t *testing.T) {
	w := octet.Write(9).Put(1, 2, 3)
	first, _ := w.Done()
	_ = append(first, 8)
	first = first[:cap(first)]
	for i := range first {
		first[i] = 9
	}
	wantWriter(t, "P1.6: Done again", w, 3, []byte{1, 2, 3}, api.OK)
	second, _ := w.Done()
	w.Patch(0, 7, 1)
	w.Put(4)
	wantBytes(t, "P1.6: an answer, when writing goes on", second, []byte{1, 2, 3})
	wantWriter(t, "P1.6: writing goes on behind Done", w, 4, []byte{7, 2, 3, 4}, api.OK)
}

func TestWriterThatWasNotMade(t *testing.T) {
	for what, w := range map[string]*octet.Writer{"nil": nil, "unmade": new(octet.Writer)} {
		wantWriter(t, "R3: "+what, w, 0, nil, api.ErrArg)
		wantWriter(t, "R3: Put of "+what, w.Put(1), 0, nil, api.ErrArg)
		wantWriter(t, "R3: Put of nothing of "+what, w.Put(), 0, nil, api.ErrArg)
		wantWriter(t, "R3: Number of "+what, w.Number(1, 1), 0, nil, api.ErrArg)
		w.Patch(0, 0, 1)
		w.Patch(-1, 0, 9)
		wantWriter(t, "R3: Patch of "+what, w, 0, nil, api.ErrArg)
	}
}

func TestWriterExamples(t *testing.T) {
	wantWriter(t, "example 3", octet.Write(4).Number(258, 2).Put(7).Number(256, 1), 3, nil, api.ErrArg)
	w := octet.Write(4).Number(258, 2).Put(7)
	w.Patch(1, 9, 1)
	wantWriter(t, "example 4", w, 3, []byte{1, 9, 7}, api.OK)
	wantWriter(t, "example 5", octet.Write(2).Put(1, 2, 3).Put(1), 0, nil, api.ErrLong)
}

func TestWhatIsWrittenIsRead(t *testing.T) {
	values := []uint32{0, 1, 0x7F, 0x80, 0xFF, 0x100, 0xABCD, 0xFFFF, 0x10000, 0xABCDEF, 0xFFFFFF, 0x1000000, 0x89ABCDEF, math.MaxUint32}
	for n := 1; n <= 4; n++ {
		w := octet.Write(n * len(values))
		var laid []uint32
		for _, v := range values {
			if uint64(v) < 1<<(8*n) {
				w.Number(v, n)
				laid = append(laid, v)
			}
		}
		b, e := w.Done()
		if e != api.OK || len(b) != n*len(laid) {
			t.Fatalf("numbers of %d bytes: %d bytes, error %d", n, len(b), e)
		}
		r := octet.Read(b)
		for _, v := range laid {
			wantNumber(t, "what was written number by number", r.Number(n), v)
		}
		wantReader(t, "behind all numbers", r, len(b), 0, api.OK)
	}
}

func TestTwoWritersKnowNothingOfEachOther(t *testing.T) {
	a, b := octet.Write(9).Put(1, 2), octet.Write(1)
	b.Put(3, 4)
	a.Put(5)
	wantWriter(t, "R6: one", a, 3, []byte{1, 2, 5}, api.OK)
	wantWriter(t, "R6: the other", b, 0, nil, api.ErrLong)
}
