// Package wire holds what images and frames share: the checksum at their end, and reading on from field to field.
package wire

import (
	"inkhorn/code"
	"inkhorn/sum"
)

// SealSize is how many bytes the checksum takes.
const SealSize = 4

// Seal returns b followed by its checksum.
func Seal(b []byte) []byte {
	return code.Put(b, int(sum.Of(b)), SealSize)
}

// Sealed returns what precedes the checksum at the end of b, or false if b does not end with the right one.
func Sealed(b []byte) ([]byte, bool) {
	end := len(b) - SealSize
	mark, ok := code.Num(b, end, SealSize)
	if !ok || uint32(mark) != sum.Of(b[:end]) {
		return nil, false
	}
	return b[:end], true
}

// Reader reads one field behind the other. Once something was missing, all further fields are zero.
type Reader struct {
	from []byte
	at   int
	bad  bool
}

// Read returns a reader of b from its first byte on.
func Read(b []byte) *Reader {
	return &Reader{from: b}
}

// Num reads a number of so many bytes.
func (r *Reader) Num(size int) int {
	n, ok := code.Num(r.from, r.at, size)
	if r.bad || !ok {
		r.bad = true
		return 0
	}
	r.at += size
	return n
}

// Text reads a string.
func (r *Reader) Text() string {
	s, next, ok := code.Text(r.from, r.at)
	if r.bad || !ok {
		r.bad = true
		return ""
	}
	r.at = next
	return s
}

// Bad reports whether something was missing.
func (r *Reader) Bad() bool {
	return r.bad
}

// Done reports whether nothing was missing and nothing is left.
func (r *Reader) Done() bool {
	return !r.bad && r.at == len(r.from)
}
