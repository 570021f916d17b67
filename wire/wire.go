// Package wire is layer 1: see shared/doc/01-wire.md.
package wire

import (
	"bytes"

	"landmark/api"
)

// The widths that a number may have, and that of the number ahead of a blob.
const (
	leastWidth = 1
	mostWidth  = 8
	blobWidth  = 2
)

func isWidth(size int) bool { return leastWidth <= size && size <= mostWidth }

// own is a copy without spare room, so that who appends to it gets memory of its own.
func own(b []byte) []byte {
	c := bytes.Clone(b)
	return c[:len(c):len(c)]
}

// Put is a number as a field of a width.
func Put(n uint64, size int) ([]byte, api.Errno) {
	// A shift by all 64 bits leaves 0: each number has room in the greatest width.
	if !isWidth(size) || n>>(8*size) != 0 {
		return nil, api.ErrArg
	}
	b := make([]byte, size)
	for i := range b {
		b[size-1-i] = byte(n >> (8 * i))
	}
	return b, api.OK
}

// Get is the number that bytes are.
func Get(b []byte) (uint64, api.Errno) {
	if !isWidth(len(b)) {
		return 0, api.ErrArg
	}
	var n uint64
	for _, x := range b {
		n = n<<8 | uint64(x)
	}
	return n, api.OK
}

// Blob is bytes as a field.
func Blob(b []byte) ([]byte, api.Errno) {
	if len(b) > api.MaxBlob {
		return nil, api.ErrLong
	}
	// MaxBlob just has room in this width, so that nothing is refused here.
	head, _ := Put(uint64(len(b)), blobWidth)
	return Join(head, b), api.OK
}

// Join is the row of pieces.
func Join(l ...[]byte) []byte {
	size := 0
	for _, b := range l {
		size += len(b)
	}
	row := make([]byte, 0, size)
	for _, b := range l {
		row = append(row, b...)
	}
	return row
}
