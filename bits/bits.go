// Package bits is layer 1: numbers of some binary digits, one behind the other. See shared/doc/01-bits.md.
package bits

import (
	"bytes"
	"math"

	"easel/api"
)

// most is how many digits a number may have.
const most = 64

// Reader takes digits from a row of bytes, from the first one on.
type Reader struct {
	row  []byte
	at   int // digits that are taken
	fail api.Errno
}

// Of is a reader of bytes.
func Of(b []byte) *Reader { return &Reader{row: bytes.Clone(b)} }

// Take is the next number of n digits.
func (r *Reader) Take(n int) uint64 {
	if !r.grants(n, most, 1) {
		return 0
	}
	return r.next()(n)
}

// Flag tells whether the next digit is 1.
func (r *Reader) Flag() bool { return r.Take(1) == 1 }

// Bytes are the next n bytes, wherever the first one's digits begin.
func (r *Reader) Bytes(n int) []byte {
	if !r.grants(n, math.MaxInt, 8) {
		return nil
	}
	out := make([]byte, n)
	if r.at%8 == 0 { // payloads are long, and nearly always begin so
		copy(out, r.row[r.at/8:])
		r.at += 8 * n
		return out
	}
	next := r.next()
	for i := range out {
		out[i] = byte(next(8))
	}
	return out
}

// Skip takes n digits, and does not tell them.
func (r *Reader) Skip(n int) {
	if r.grants(n, math.MaxInt, 1) {
		r.at += n
	}
}

// Rest is what is left, if that is whole bytes.
func (r *Reader) Rest() []byte {
	if r.Err() != api.OK {
		return nil
	}
	if r.Left()%8 != 0 {
		r.fail = api.ErrArg
		return nil
	}
	return r.Bytes(r.Left() / 8)
}

// Left is how many digits are left.
func (r *Reader) Left() int {
	if r == nil {
		return 0
	}
	return 8*len(r.row) - r.at
}

// Err is the first failure, or OK.
func (r *Reader) Err() api.Errno {
	if r == nil {
		return api.ErrNil
	}
	return r.fail
}

// grants tells whether n parts of so many digits each may be taken; if not, the reader has failed.
func (r *Reader) grants(n, highest, digits int) bool {
	if r.Err() != api.OK {
		return false
	}
	switch {
	case n < 0 || n > highest:
		r.fail = api.ErrArg
	case n > r.Left()/digits: // not n*digits: that might not fit an int
		r.fail = api.ErrShort
	}
	return r.fail == api.OK
}

// next hands out how the digits at the reader's place are told, and the place moved on.
// It asks no question: who calls it was granted the digits.
func (r *Reader) next() func(n int) uint64 {
	return func(n int) uint64 {
		var number uint64
		for n > 0 {
			open := 8 - r.at%8
			k := min(n, open)
			part := uint64(r.row[r.at/8]) >> (open - k) & (1<<k - 1)
			number = number<<k | part
			r.at += k
			n -= k
		}
		return number
	}
}

// Writer puts digits, one behind the other, into a row of bytes.
type Writer struct {
	row []byte
	n   int // digits that were put
}

// New is a writer that put nothing.
func New() *Writer { return &Writer{} }

// Put is the lowest digits of n more.
func (w *Writer) Put(n uint64, digits int) *Writer {
	if w == nil {
		return nil
	}
	for left := min(digits, most); left > 0; {
		if w.n%8 == 0 {
			w.row = append(w.row, 0)
		}
		open := 8 - w.n%8
		k := min(left, open)
		part := n >> (left - k) & (1<<k - 1)
		w.row[len(w.row)-1] |= byte(part << (open - k))
		w.n += k
		left -= k
	}
	return w
}

// Flag is a digit more.
func (w *Writer) Flag(x bool) *Writer {
	if x {
		return w.Put(1, 1)
	}
	return w.Put(0, 1)
}

// Bytes are 8 digits more of each byte.
func (w *Writer) Bytes(l ...[]byte) *Writer {
	if w == nil {
		return nil
	}
	for _, b := range l {
		if w.n%8 == 0 { // payloads are long, and nearly always begin so
			w.row = append(w.row, b...)
			w.n += 8 * len(b)
			continue
		}
		for _, c := range b {
			w.Put(uint64(c), 8)
		}
	}
	return w
}

// Fill is digits 0 more, up to a multiple of so many.
func (w *Writer) Fill(digits int) *Writer {
	if w == nil {
		return nil
	}
	if digits < 1 || w.n%digits == 0 {
		return w
	}
	more := digits - w.n%digits
	if more/8 > math.MaxInt32-len(w.row) {
		return w // no row may be so long: asking for its memory would end the program
	}
	w.n += more
	w.row = append(w.row, make([]byte, (w.n+7)/8-len(w.row))...)
	return w
}

// Len is how many digits were put.
func (w *Writer) Len() int {
	if w == nil {
		return 0
	}
	return w.n
}

// Out are the bytes; the last one is filled up by digits 0.
func (w *Writer) Out() []byte {
	if w == nil {
		return nil
	}
	return bytes.Clone(w.row)
}

// Pack are the bytes of numbers of so many digits each.
func Pack(digits int, l ...uint64) []byte {
	w := New()
	for _, n := range l {
		w.Put(n, digits)
	}
	return w.Out()
}
