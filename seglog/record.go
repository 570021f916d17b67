package seglog

import (
	"iter"

	"landmark/api"
	"landmark/crc"
	"landmark/wire"
)

// The widths of the two numbers ahead of a record's own bytes.
const (
	sizeWidth = 4
	sumWidth  = 4
	headSize  = sizeWidth + sumWidth
)

// Record is a record's bytes.
func Record(b []byte) ([]byte, api.Errno) {
	if len(b) > api.MaxRecord {
		return nil, api.ErrLong
	}
	// MaxRecord and each sum have room in these widths, so that nothing is refused here.
	size, _ := wire.Put(uint64(len(b)), sizeWidth)
	sum, _ := wire.Put(uint64(crc.Sum(size, b)), sumWidth)
	return wire.Join(size, sum, b), api.OK
}

// takeApart goes over the records of bytes, each with whether its sum is right, up to a torn rest. Each has memory of its own.
func takeApart(b []byte) iter.Seq2[[]byte, bool] {
	return func(yield func([]byte, bool) bool) {
		r := wire.Read(b)
		for r.Left() >= headSize {
			size := r.Bytes(sizeWidth)
			sum := r.Number(sumWidth)
			n, _ := wire.Get(size)
			if n > api.MaxRecord || int(n) > r.Left() {
				return
			}
			record := r.Bytes(int(n))
			if !yield(record, sum == uint64(crc.Sum(size, record))) {
				return
			}
		}
	}
}

// Whole is the records of bytes, how many bytes they are, and whether each one's sum is right.
func Whole(b []byte) ([][]byte, int, bool) {
	var records [][]byte
	size := 0
	for record, isRight := range takeApart(b) {
		if !isRight {
			return records, size, false
		}
		records = append(records, record)
		size += headSize + len(record)
	}
	return records, size, true
}

// only is the record that bytes are, if they are one and nothing else.
func only(b []byte) ([]byte, bool) {
	// One whose sum is wrong is not among them, and its bytes are not counted.
	records, size, _ := Whole(b)
	if len(records) != 1 || size != len(b) {
		return nil, false
	}
	return records[0], true
}
