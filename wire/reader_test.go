package wire

import (
	"bytes"
	"math"
	"math/rand/v2"
	"testing"

	"landmark/api"
)

// expectNothing holds a reader against one that is not whole, whatever it is asked for.
func expectNothing(t *testing.T, what string, r *Reader, end api.Errno) {
	t.Helper()
	for range 2 {
		for _, size := range []int{1, 2, 8, 0, 9, -1} {
			if n := r.Number(size); n != 0 {
				t.Errorf("%s: Number(%d) = %d", what, size, n)
			}
		}
		for _, n := range []int{0, 1, 2, -1, math.MinInt, math.MaxInt} {
			if b := r.Bytes(n); len(b) != 0 {
				t.Errorf("%s: Bytes(%d) = %v", what, n, b)
			}
		}
		if b := r.Blob(); len(b) != 0 {
			t.Errorf("%s: Blob() = %v", what, b)
		}
		if r.Left() != 0 || !r.Failed() || r.End() != end {
			t.Errorf("%s: Left %d, Failed %v, End %v", what, r.Left(), r.Failed(), r.End())
		}
	}
}

// expectWhole holds a reader against one that is whole and has so many bytes left.
func expectWhole(t *testing.T, what string, r *Reader, left int) {
	t.Helper()
	end := api.OK
	if left > 0 {
		end = api.ErrBytes
	}
	if r.Failed() || r.Left() != left || r.End() != end {
		t.Errorf("%s: Failed %v, Left %d (want %d), End %v", what, r.Failed(), r.Left(), left, r.End())
	}
}

// P1.3: the chapter's example.
func TestReaderExample(t *testing.T) {
	r := Read([]byte{0, 1, 7, 9})
	if b := r.Blob(); !bytes.Equal(b, []byte{7}) {
		t.Error(b)
	}
	expectWhole(t, "behind the blob", r, 1)
	if n := r.Number(2); n != 0 {
		t.Error(n)
	}
	expectNothing(t, "behind a number that is not there", r, api.ErrBytes)
}

// P1.3: looks change nothing: a reader that was asked for Left, Failed and End goes on.
func TestReaderGoesOn(t *testing.T) {
	r := Read([]byte{1, 2, 3, 4, 5, 6})
	expectWhole(t, "at the front", r, 6)
	if n := r.Number(2); n != 258 {
		t.Error(n)
	}
	expectWhole(t, "behind a number", r, 4)
	if b := r.Bytes(3); !bytes.Equal(b, []byte{3, 4, 5}) {
		t.Error(b)
	}
	expectWhole(t, "behind bytes", r, 1)
	if b := r.Bytes(0); len(b) != 0 {
		t.Error(b)
	}
	expectWhole(t, "behind no bytes", r, 1)
	if n := r.Number(1); n != 6 {
		t.Error(n)
	}
	expectWhole(t, "at the end", r, 0)
	if b := r.Bytes(0); len(b) != 0 {
		t.Error(b)
	}
	expectWhole(t, "no bytes at the end", r, 0)
}

// P1.3: a row without fields is gone through at once.
func TestReaderOfNothing(t *testing.T) {
	for _, b := range [][]byte{nil, {}} {
		expectWhole(t, "of nothing", Read(b), 0)
		r := Read(b)
		if r.Number(1) != 0 {
			t.Error("a number of nothing")
		}
		expectNothing(t, "a number of nothing", r, api.ErrBytes)
		r = Read(b)
		if len(r.Blob()) != 0 {
			t.Error("a blob of nothing")
		}
		expectNothing(t, "a blob of nothing", r, api.ErrBytes)
		r = Read(b)
		if len(r.Bytes(1)) != 0 {
			t.Error("a byte of nothing")
		}
		expectNothing(t, "a byte of nothing", r, api.ErrBytes)
	}
}

// P1.3: numbers of each width, with just enough bytes and with one too few.
func TestReaderNumber(t *testing.T) {
	row := []byte{200, 2, 3, 4, 5, 6, 7, 8, 9}
	var want uint64
	for size := 1; size <= 8; size++ {
		want = want<<8 | uint64(row[size-1])
		r := Read(row)
		if n := r.Number(size); n != want {
			t.Errorf("Number(%d) = %d; want %d", size, n, want)
		}
		expectWhole(t, "a number", r, 9-size)
		r = Read(row[:size])
		if n := r.Number(size); n != want {
			t.Errorf("Number(%d) = %d; want %d", size, n, want)
		}
		expectWhole(t, "just a number", r, 0)
		r = Read(row[:size-1])
		if n := r.Number(size); n != 0 {
			t.Errorf("Number(%d) of %d bytes = %d", size, size-1, n)
		}
		expectNothing(t, "a number that is cut", r, api.ErrBytes)
	}
}

// P1.3: a width that is none, fewer than 0 bytes, more than there are: not whole any more.
func TestReaderWrongAsked(t *testing.T) {
	row := bytes.Repeat([]byte{1}, 20)
	for _, size := range []int{0, 9, 10, 20, -1, -8, math.MinInt, math.MaxInt} {
		r := Read(row)
		if n := r.Number(size); n != 0 {
			t.Errorf("Number(%d) = %d", size, n)
		}
		expectNothing(t, "a width that is none", r, api.ErrBytes)
	}
	for _, n := range []int{-1, -20, math.MinInt, 21, math.MaxInt} {
		r := Read(row)
		if b := r.Bytes(n); len(b) != 0 {
			t.Errorf("Bytes(%d) = %v", n, b)
		}
		expectNothing(t, "bytes that are not there", r, api.ErrBytes)
	}
	r := Read(row)
	if b := r.Bytes(20); !bytes.Equal(b, row) {
		t.Error(b)
	}
	expectWhole(t, "all bytes", r, 0)
}

// P1.3: blobs of 0 and 65535 bytes; and cut ones, at each place.
func TestReaderBlob(t *testing.T) {
	for _, size := range []int{0, 1, 255, 256, 65534, 65535} {
		body := bytes.Repeat([]byte{5}, size)
		f, _ := Blob(body)
		r := Read(Join(f, []byte{6}))
		if b := r.Blob(); !bytes.Equal(b, body) {
			t.Errorf("a blob of %d bytes: %d", size, len(b))
		}
		expectWhole(t, "a blob", r, 1)
	}
	f, _ := Blob([]byte("stake"))
	for i := range f {
		r := Read(f[:i])
		if b := r.Blob(); len(b) != 0 {
			t.Errorf("a blob cut to %d bytes: %v", i, b)
		}
		expectNothing(t, "a blob that is cut", r, api.ErrBytes)
	}
	r := Read(append([]byte{255, 255}, make([]byte, 65534)...))
	if b := r.Blob(); len(b) != 0 {
		t.Error("a blob of one byte less than it says:", len(b))
	}
	expectNothing(t, "a blob of one byte less than it says", r, api.ErrBytes)
}

// P1.3: a nil reader and a zero one are not whole.
func TestReaderNilAndZero(t *testing.T) {
	var none *Reader
	expectNothing(t, "nil", none, api.ErrNil)
	expectNothing(t, "zero", &Reader{}, api.ErrBytes)
	expectNothing(t, "new", new(Reader), api.ErrBytes)
}

// P1.3: bytes left are ErrBytes, until they are gone through.
func TestReaderEnd(t *testing.T) {
	r := Read([]byte{1})
	if r.End() != api.ErrBytes || r.End() != api.ErrBytes {
		t.Error(r.End())
	}
	r.Number(1)
	if r.End() != api.OK || r.End() != api.OK {
		t.Error(r.End())
	}
	r.Number(1)
	if r.End() != api.ErrBytes {
		t.Error(r.End())
	}
}

// P1.3: a reader reads a copy; what it tells is the caller's alone.
func TestReaderSharesNothing(t *testing.T) {
	row := []byte{0, 2, 7, 8, 0, 2, 9, 10, 11, 12}
	keep := bytes.Clone(row)
	r := Read(row)
	twin := *r
	first := r.Blob()
	row[2], row[6] = 100, 100
	if !bytes.Equal(first, []byte{7, 8}) {
		t.Error("told bytes hang on what was handed in:", first)
	}
	_ = append(first, 50, 50, 50)
	first[0] = 60
	second := r.Blob()
	if !bytes.Equal(second, []byte{9, 10}) {
		t.Error("told bytes reach into the rest:", second)
	}
	third := r.Bytes(2)
	_ = append(second, 50)
	second[1] = 60
	if !bytes.Equal(third, []byte{11, 12}) {
		t.Error("two answers share their memory:", third)
	}
	if b := twin.Blob(); !bytes.Equal(b, keep[2:4]) {
		t.Error("told bytes are still the reader's:", b)
	}
	if row[2], row[6] = 7, 9; !bytes.Equal(row, keep) {
		t.Error("what was handed in was changed:", row)
	}
}

// field is a field of a row that a test makes, and what it must be read as.
type field struct {
	kind, size int
	number     uint64
	body       []byte
}

func makeField(rnd *rand.Rand) (field, []byte) {
	f := field{kind: rnd.IntN(3), size: 1 + rnd.IntN(8)}
	if f.kind == 0 {
		f.number = rnd.Uint64() >> (64 - 8*f.size) >> rnd.IntN(8)
		b, _ := Put(f.number, f.size)
		return f, b
	}
	f.body = make([]byte, rnd.IntN(300))
	for i := range f.body {
		f.body[i] = byte(rnd.Uint32())
	}
	if f.kind == 1 {
		b, _ := Blob(f.body)
		return f, b
	}
	return f, f.body
}

func (f field) readBy(r *Reader) bool {
	switch f.kind {
	case 0:
		return r.Number(f.size) == f.number
	case 1:
		return bytes.Equal(r.Blob(), f.body)
	}
	return bytes.Equal(r.Bytes(len(f.body)), f.body)
}

// P1.4: a row tells its fields, in order, and nothing else; a row that is cut tells those ahead of the cut alone.
func TestRowTellsItsFields(t *testing.T) {
	rnd := rand.New(rand.NewPCG(1, 2))
	for range 300 {
		var fields []field
		var pieces [][]byte
		for range rnd.IntN(12) {
			f, b := makeField(rnd)
			fields, pieces = append(fields, f), append(pieces, b)
		}
		row := Join(pieces...)
		r := Read(row)
		left := len(row)
		for i, f := range fields {
			if !f.readBy(r) {
				t.Fatal("a field is another one")
			}
			left -= len(pieces[i])
			expectWhole(t, "within a row", r, left)
		}
		expectWhole(t, "behind a row", r, 0)
		if len(row) > 0 {
			readCut(t, fields, pieces, row[:rnd.IntN(len(row))])
		}
	}
}

func readCut(t *testing.T, fields []field, pieces [][]byte, row []byte) {
	t.Helper()
	r := Read(row)
	left := len(row)
	for i, f := range fields {
		if len(pieces[i]) > left {
			f.readBy(r)
			expectNothing(t, "behind the cut", r, api.ErrBytes)
			return
		}
		if !f.readBy(r) {
			t.Fatal("a field ahead of the cut is another one")
		}
		left -= len(pieces[i])
		expectWhole(t, "ahead of the cut", r, left)
	}
}

// P1.4: who asks for more than there is learns nothing of what is there behind it.
func TestAskedForMore(t *testing.T) {
	for _, ask := range []func(*Reader){
		func(r *Reader) { r.Number(8) },
		func(r *Reader) { r.Blob() },
		func(r *Reader) { r.Bytes(6) },
	} {
		r := Read([]byte{4, 9, 9, 9, 9, 9})
		if n := r.Number(1); n != 4 {
			t.Error(n)
		}
		ask(r)
		expectNothing(t, "asked for more", r, api.ErrBytes)
	}
}

// P1.4: a number of a greater width has noughts ahead.
func TestGreaterWidth(t *testing.T) {
	for size := 1; size <= 8; size++ {
		n := uint64(0xfedcba9876543210) >> (64 - 8*size)
		short, _ := Put(n, size)
		for wide := size; wide <= 8; wide++ {
			long, e := Put(n, wide)
			if e != api.OK || !bytes.Equal(long, Join(make([]byte, wide-size), short)) {
				t.Errorf("Put(%d, %d) = %v, %v", n, wide, long, e)
			}
			if back, _ := Get(long); back != n || Read(long).Number(wide) != n {
				t.Errorf("%v is not %d", long, n)
			}
		}
	}
}

// P1.4: rows in blobs are rows.
func TestRowsInBlobs(t *testing.T) {
	number, _ := Put(70000, 3)
	name, _ := Blob([]byte("stake"))
	row := Join(number, name)
	for range 5 {
		inner, _ := Blob(row)
		row = Join(inner, []byte{9})
	}
	r := Read(row)
	for range 5 {
		inner := r.Blob()
		if r.Number(1) != 9 || r.End() != api.OK {
			t.Fatal("around a row in a blob")
		}
		r = Read(inner)
	}
	if n, s := r.Number(3), string(r.Blob()); n != 70000 || s != "stake" || r.End() != api.OK {
		t.Error(n, s, r.End())
	}
}
