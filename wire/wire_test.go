package wire

import (
	"bytes"
	"math"
	"testing"

	"landmark/api"
)

// P1.1: a number's bytes, the highest first.
func TestPutTellsBytes(t *testing.T) {
	for _, c := range []struct {
		n    uint64
		size int
		want []byte
	}{
		{258, 2, []byte{1, 2}},
		{0, 1, []byte{0}},
		{255, 1, []byte{255}},
		{0, 8, make([]byte, 8)},
		{1, 8, []byte{0, 0, 0, 0, 0, 0, 0, 1}},
		{0x0102030405060708, 8, []byte{1, 2, 3, 4, 5, 6, 7, 8}},
		{math.MaxUint64, 8, bytes.Repeat([]byte{255}, 8)},
		{1 << 63, 8, []byte{128, 0, 0, 0, 0, 0, 0, 0}},
		{70000, 3, []byte{1, 17, 112}},
	} {
		b, e := Put(c.n, c.size)
		if e != api.OK || !bytes.Equal(b, c.want) {
			t.Errorf("Put(%d, %d) = %v, %v; want %v", c.n, c.size, b, e, c.want)
		}
	}
}

// P1.1: of each width the greatest number that has room, and the least that has none.
func TestPutRoom(t *testing.T) {
	for size := 1; size <= 8; size++ {
		most := uint64(math.MaxUint64) >> (64 - 8*size)
		b, e := Put(most, size)
		if e != api.OK || !bytes.Equal(b, bytes.Repeat([]byte{255}, size)) {
			t.Errorf("Put(%d, %d) = %v, %v", most, size, b, e)
		}
		if size == 8 {
			continue
		}
		for _, n := range []uint64{most + 1, most + 2, 1 << 63, math.MaxUint64} {
			if b, e := Put(n, size); e != api.ErrArg || len(b) != 0 {
				t.Errorf("Put(%d, %d) = %v, %v", n, size, b, e)
			}
		}
	}
}

// P1.1: widths that are none, whatever the number.
func TestPutWrongWidth(t *testing.T) {
	for _, size := range []int{0, 9, 10, 16, 64, -1, -8, math.MinInt, math.MaxInt} {
		for _, n := range []uint64{0, 1, math.MaxUint64} {
			if b, e := Put(n, size); e != api.ErrArg || len(b) != 0 {
				t.Errorf("Put(%d, %d) = %v, %v", n, size, b, e)
			}
		}
	}
}

// P1.1: Get is what Put put, and any 1 to 8 bytes are a number.
func TestGet(t *testing.T) {
	for _, c := range []struct {
		b    []byte
		want uint64
	}{
		{[]byte{0}, 0},
		{[]byte{255}, 255},
		{[]byte{1, 2}, 258},
		{[]byte{0, 0, 7}, 7},
		{[]byte{1, 2, 3, 4, 5, 6, 7, 8}, 0x0102030405060708},
		{bytes.Repeat([]byte{255}, 8), math.MaxUint64},
	} {
		if n, e := Get(c.b); e != api.OK || n != c.want {
			t.Errorf("Get(%v) = %d, %v; want %d", c.b, n, e, c.want)
		}
	}
	for size := 1; size <= 8; size++ {
		for bit := range 8 * size {
			n := uint64(1)<<bit | uint64(1)<<(bit/2)
			b, e := Put(n, size)
			if back, f := Get(b); e != api.OK || f != api.OK || back != n {
				t.Errorf("Get(Put(%d, %d)) = %d, %v, %v", n, size, back, e, f)
			}
		}
	}
}

// P1.1: fewer bytes than 1, more than 8.
func TestGetWrong(t *testing.T) {
	for _, b := range [][]byte{nil, {}, make([]byte, 9), bytes.Repeat([]byte{1}, 9), bytes.Repeat([]byte{1}, 100)} {
		if n, e := Get(b); e != api.ErrArg || n != 0 {
			t.Errorf("Get of %d bytes = %d, %v", len(b), n, e)
		}
	}
}

// P1.1: how long, then the bytes.
func TestBlob(t *testing.T) {
	for _, c := range []struct{ b, want []byte }{
		{[]byte("ab"), []byte{0, 2, 'a', 'b'}},
		{nil, []byte{0, 0}},
		{[]byte{}, []byte{0, 0}},
		{[]byte{7}, []byte{0, 1, 7}},
		{bytes.Repeat([]byte{3}, 256), append([]byte{1, 0}, bytes.Repeat([]byte{3}, 256)...)},
		{bytes.Repeat([]byte{9}, 65535), append([]byte{255, 255}, bytes.Repeat([]byte{9}, 65535)...)},
	} {
		f, e := Blob(c.b)
		if e != api.OK || !bytes.Equal(f, c.want) {
			t.Errorf("Blob of %d bytes: %d bytes, %v", len(c.b), len(f), e)
		}
	}
	for _, size := range []int{65536, 65537, 1 << 17} {
		if f, e := Blob(make([]byte, size)); e != api.ErrLong || len(f) != 0 {
			t.Errorf("Blob of %d bytes: %d bytes, %v", size, len(f), e)
		}
	}
}

// P1.1: pieces one behind the other, any number of them.
func TestJoin(t *testing.T) {
	for _, c := range []struct {
		l    [][]byte
		want []byte
	}{
		{nil, nil},
		{[][]byte{nil}, nil},
		{[][]byte{nil, {}, nil}, nil},
		{[][]byte{{1}}, []byte{1}},
		{[][]byte{{1, 2}, nil, {3}, {}, {4, 5, 6}}, []byte{1, 2, 3, 4, 5, 6}},
	} {
		if row := Join(c.l...); !bytes.Equal(row, c.want) {
			t.Errorf("Join(%v) = %v", c.l, row)
		}
	}
	many := make([][]byte, 1000)
	var want []byte
	for i := range many {
		many[i] = bytes.Repeat([]byte{byte(i)}, i%5)
		want = append(want, many[i]...)
	}
	if !bytes.Equal(Join(many...), want) {
		t.Error("a thousand pieces")
	}
}

// What is answered is in new memory; what is handed in is not changed.
func TestFieldsShareNothing(t *testing.T) {
	backing := []byte{1, 2, 3, 4}
	piece := backing[:2]
	f, _ := Blob(piece)
	row := Join(piece)
	_ = append(f, 9)
	_ = append(row, 9)
	f[2], row[0] = 77, 78
	if !bytes.Equal(backing, []byte{1, 2, 3, 4}) {
		t.Error("what was handed in was changed:", backing)
	}
	f, _ = Blob(piece)
	row = Join(piece, piece)
	piece[0] = 99
	if f[2] != 1 || row[0] != 1 || row[2] != 1 {
		t.Error("what was answered hangs on what was handed in:", f, row)
	}
	a, _ := Put(258, 2)
	a[0] = 50
	if b, _ := Put(258, 2); !bytes.Equal(b, []byte{1, 2}) {
		t.Error("two answers share their memory:", b)
	}
}
