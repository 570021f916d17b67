package wire

import "landmark/api"

// Reader goes through a row once. A zero one is not whole.
type Reader struct {
	rest  []byte
	whole bool
}

// Read is a reader of a copy, at its front.
func Read(b []byte) *Reader {
	return &Reader{rest: own(b), whole: true}
}

// fail drops the rest as well, so that nothing can be learned of it any more.
func (r *Reader) fail() {
	if r != nil {
		*r = Reader{}
	}
}

// cut takes the next n bytes off the rest, which they still share their memory with: for this package alone.
func (r *Reader) cut(n int) []byte {
	if r.Failed() || n < 0 || n > len(r.rest) {
		r.fail()
		return nil
	}
	end := len(r.rest)
	piece := r.rest[:n:n]
	r.rest = r.rest[n:end:end]
	return piece
}

// Number is the next field, a number of a width.
func (r *Reader) Number(size int) uint64 {
	if !isWidth(size) {
		r.fail()
		return 0
	}
	// Of no bytes Get answers 0, as a reader does that is not whole.
	n, _ := Get(r.cut(size))
	return n
}

// Blob is the next field, a blob.
func (r *Reader) Blob() []byte {
	n := r.Number(blobWidth)
	// If there was no number, the reader is not whole, and tells no bytes here.
	return r.Bytes(int(n))
}

// Bytes is the next n bytes as they stand.
func (r *Reader) Bytes(n int) []byte { return own(r.cut(n)) }

// Left is how many bytes it has not gone through.
func (r *Reader) Left() int {
	if r.Failed() {
		return 0
	}
	return len(r.rest)
}

// Failed tells that it is not whole.
func (r *Reader) Failed() bool { return r == nil || !r.whole }

// End is OK if it is whole and has gone through all.
func (r *Reader) End() api.Errno {
	switch {
	case r == nil:
		return api.ErrNil
	case r.Failed() || r.Left() > 0:
		return api.ErrBytes
	}
	return api.OK
}
