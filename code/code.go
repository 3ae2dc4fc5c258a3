// Package code: numbers and rows as bytes.
package code

import (
	"bytes"

	"gavel/api"
)

const (
	digits  = 7           // binary digits of a number in one byte
	more    = 1 << digits // set in a byte behind which the number goes on
	longest = 10          // bytes that 64 binary digits take
)

// Writer holds what was written.
type Writer struct{ out []byte }

// NewWriter makes a writer that has written nothing.
func NewWriter() *Writer {
	return &Writer{}
}

// Num writes n, its lowest digits first.
func (w *Writer) Num(n uint64) *Writer {
	for n >= more {
		w.out = append(w.out, byte(n)|more)
		n >>= digits
	}
	w.out = append(w.out, byte(n))
	return w
}

// Int writes n as a Num, below 0 as 0.
func (w *Writer) Int(n int) *Writer {
	return w.Num(uint64(max(n, 0)))
}

// Row writes the length of b, and b.
func (w *Writer) Row(b []byte) *Writer {
	w.Int(len(b))
	w.out = append(w.out, b...)
	return w
}

// Hash writes the bytes of h.
func (w *Writer) Hash(h api.Hash) *Writer {
	w.out = append(w.out, h[:]...)
	return w
}

// Bytes tells all that was written.
func (w *Writer) Bytes() []byte {
	return bytes.Clone(w.out)
}

// Reader holds what is not taken yet; nothing, if it has failed.
type Reader struct {
	rest   []byte
	failed bool
}

// NewReader makes a reader of b.
func NewReader(b []byte) *Reader {
	// The caller may change b ahead of the next call.
	return &Reader{rest: bytes.Clone(b)}
}

// Num takes a number.
func (r *Reader) Num() uint64 {
	n, size := number(r.rest)
	if size == 0 {
		r.fail()
		return 0
	}
	r.rest = r.rest[size:]
	return n
}

// Int takes a number from 0 to most.
func (r *Reader) Int(most int) int {
	n := r.Num()
	// most is asked first: below 0 it would be a great number as an unsigned one.
	if most < 0 || n > uint64(most) {
		r.fail()
		return 0
	}
	return int(n)
}

// Row takes a length of at most most, and so many bytes.
func (r *Reader) Row(most int) []byte {
	return bytes.Clone(r.take(r.Int(most)))
}

// Hash takes the bytes of a hash.
func (r *Reader) Hash() api.Hash {
	var h api.Hash
	copy(h[:], r.take(len(h)))
	return h
}

// OK tells whether the reader has not failed.
func (r *Reader) OK() bool {
	return !r.failed
}

// Left tells how many bytes are left.
func (r *Reader) Left() int {
	return len(r.rest)
}

// take takes n bytes; they are a piece of the reader's memory.
func (r *Reader) take(n int) []byte {
	if n > len(r.rest) {
		r.fail()
		return nil
	}
	b := r.rest[:n]
	r.rest = r.rest[n:]
	return b
}

// fail lets go of what is left, so that no later call finds anything to take.
func (r *Reader) fail() {
	r.rest, r.failed = nil, true
}

// number tells the number at the beginning of b, and how many bytes it takes: 0, if none stands there as a writer would write it.
func number(b []byte) (n uint64, size int) {
	for i, x := range b[:min(len(b), longest)] {
		part, shift := uint64(x&(more-1)), digits*i
		if part<<shift>>shift != part {
			return 0, 0 // more than 64 digits
		}
		n |= part << shift
		if x == 0 && i > 0 {
			return 0, 0 // a writer would have ended ahead of this byte
		}
		if x < more {
			return n, i + 1
		}
	}
	return 0, 0
}
