package octet

import (
	"bytes"

	"tallyhouse/api"
)

// place is where a reader stands, and the error that holds it there.
type place struct {
	at  int
	err api.Errno
}

// Reader goes on and back among bytes, which it keeps and nobody may change while it is used.
type Reader struct {
	place
	all []byte
}

// Read: P1.3.
func Read(b []byte) *Reader {
	return &Reader{all: b}
}

// U8: P1.3.
func (r *Reader) U8() byte {
	return byte(r.number(1))
}

// U16: P1.3.
func (r *Reader) U16() uint16 {
	return uint16(r.number(2))
}

// U32: P1.3.
func (r *Reader) U32() uint32 {
	return uint32(r.number(4))
}

// U64: P1.3.
func (r *Reader) U64() uint64 {
	return r.number(8)
}

// Raw: P1.3.
func (r *Reader) Raw(n int) []byte {
	return bytes.Clone(r.next(n))
}

// Go: P1.4.
func (r *Reader) Go(n int) {
	if !r.sound() {
		return
	}
	// Held against both ends ahead of the sum, which could wrap round.
	if n < -r.at || n > r.Left() {
		r.err = api.ErrArg
		return
	}
	r.at += n
}

// At: P1.4.
func (r *Reader) At() int {
	if r == nil {
		return 0
	}
	return r.at
}

// Left: P1.4.
func (r *Reader) Left() int {
	if r == nil {
		return 0
	}
	return len(r.all) - r.at
}

// Err: P1.4.
func (r *Reader) Err() api.Errno {
	if r == nil {
		return api.ErrNil
	}
	return r.err
}

// sound tells whether the reader may still move: its first error is the one that stays.
func (r *Reader) sound() bool {
	return r.Err() == api.OK
}

// number is 0 where too few bytes are left, as next gives none then.
func (r *Reader) number(size int) uint64 {
	x := uint64(0)
	for _, b := range r.next(size) {
		x = x<<8 | uint64(b)
	}
	return x
}

// next is a piece of the reader's own bytes: it must not leave the package uncopied.
func (r *Reader) next(n int) []byte {
	if !r.sound() {
		return nil
	}
	if n < 0 {
		r.err = api.ErrArg
		return nil
	}
	if n > r.Left() {
		r.err = api.ErrShort
		return nil
	}
	from := r.at
	r.at += n
	return r.all[from:r.at]
}
