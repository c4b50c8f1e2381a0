// Package octet is layer 1: numbers and bytes in a row of bytes, read and written within bounds. See shared/doc/01-octet.md.
package octet

import (
	"bytes"

	"lodestar/api"
)

// widest: so many bytes a number has at most.
const widest = 4

// Reader: of bytes, from the left. Its row is never written to, so that readers may share one.
type Reader struct {
	made bool
	row  []byte
	at   int
	err  api.Errno
}

// Read: a reader of a copy of b.
func Read(b []byte) *Reader { return &Reader{made: true, row: bytes.Clone(b)} }

// Number: of the next n bytes, the highest first.
func (r *Reader) Number(n int) uint32 {
	if n < 1 || n > widest {
		r.refuse(api.ErrArg)
		return 0
	}
	v := uint32(0)
	for _, b := range r.cut(n) {
		v = v<<8 | uint32(b)
	}
	return v
}

// Bytes: the next n.
func (r *Reader) Bytes(n int) []byte { return bytes.Clone(r.cut(n)) }

// Part: a reader of the next n bytes; if they are not to be had, one without bytes that is not whole either.
func (r *Reader) Part(n int) *Reader {
	if r == nil || !r.made {
		return nil
	}
	row := r.cut(n)
	return &Reader{made: true, row: row, err: r.err}
}

// Left: how many bytes are behind the place.
func (r *Reader) Left() int {
	if !r.whole() {
		return 0
	}
	return len(r.row) - r.at
}

// At: the place.
func (r *Reader) At() int {
	if r == nil {
		return 0
	}
	return r.at
}

// Err: why the reader is not whole; OK, if it is.
func (r *Reader) Err() api.Errno {
	if r == nil || !r.made {
		return api.ErrArg
	}
	return r.err
}

func (r *Reader) whole() bool { return r.Err() == api.OK }

// refuse keeps the first error alone: a reader that is not whole stays as it is.
func (r *Reader) refuse(e api.Errno) {
	if r.whole() {
		r.err = e
	}
}

// cut: the next n bytes of the row itself, cut so that nothing behind them belongs to them.
func (r *Reader) cut(n int) []byte {
	if n < 0 {
		r.refuse(api.ErrArg)
	} else if n > r.Left() {
		r.refuse(api.ErrShort)
	}
	if !r.whole() {
		return nil
	}
	from := r.at
	r.at += n
	return r.row[from:r.at:r.at]
}

// Writer: of bytes, up to a limit.
type Writer struct {
	made bool
	row  []byte
	most int
	err  api.Errno
}

// Write: a writer that may have most bytes.
func Write(most int) *Writer { return &Writer{made: true, most: max(most, 0)} }

// Number: v is laid behind the others, as a number of n bytes.
func (w *Writer) Number(v uint32, n int) *Writer { return w.spell(v, n, w.Put) }

// Put: the bytes are laid behind the others.
func (w *Writer) Put(b ...byte) *Writer {
	if !w.whole() {
		return w
	}
	if len(w.row)+len(b) > w.most {
		return w.refuse(api.ErrLong)
	}
	w.row = append(w.row, b...)
	return w
}

// Patch: the n bytes from at on become the number v.
func (w *Writer) Patch(at int, v uint32, n int) { w.spell(v, n, spot{w, at}.put) }

// Len: how many bytes there are.
func (w *Writer) Len() int {
	if w == nil {
		return 0
	}
	return len(w.row)
}

// Done: a copy of the bytes, or why the writer is not whole.
func (w *Writer) Done() ([]byte, api.Errno) {
	if !w.whole() {
		return nil, w.fault()
	}
	return bytes.Clone(w.row), api.OK
}

func (w *Writer) whole() bool { return w.fault() == api.OK }

func (w *Writer) fault() api.Errno {
	if w == nil || !w.made {
		return api.ErrArg
	}
	return w.err
}

// refuse is asked of a whole writer alone, so that the first error stays.
func (w *Writer) refuse(e api.Errno) *Writer {
	w.err = e
	return w
}

// spell hands the n bytes of v to lay: a number that is laid behind and one that is patched differ in nothing but where these go.
func (w *Writer) spell(v uint32, n int, lay func(b ...byte) *Writer) *Writer {
	if !w.whole() {
		return w
	}
	if n < 1 || n > widest || v>>(8*n) != 0 {
		return w.refuse(api.ErrArg)
	}
	b := [widest]byte{byte(v >> 24), byte(v >> 16), byte(v >> 8), byte(v)}
	return lay(b[widest-n:]...)
}

// spot: a place among a writer's bytes.
type spot struct {
	w  *Writer
	at int
}

// put lays the bytes over those that are there, of which there must be as many; the writer is whole.
func (s spot) put(b ...byte) *Writer {
	if s.at < 0 || s.at > len(s.w.row)-len(b) {
		return s.w.refuse(api.ErrArg)
	}
	copy(s.w.row[s.at:], b)
	return s.w
}
