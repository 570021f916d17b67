package seglog

import (
	"bytes"
	"math/rand/v2"
	"strings"
	"testing"

	"landmark/api"
)

// P5.4: Record: how many, the sum, the bytes themselves.
func TestRecord(t *testing.T) {
	for _, b := range []string{"", "x", "ab", "\x00", strings.Repeat("\xff", 300), strings.Repeat("z", 1<<20-1), strings.Repeat("z", 1<<20)} {
		got, e := Record([]byte(b))
		if e != api.OK || string(got) != raw(b) {
			t.Errorf("Record of %d bytes: %v, %.20x", len(b), e, got)
		}
	}
	if got, e := Record(nil); e != api.OK || string(got) != raw("") || len(got) != 8 {
		t.Error("of nil", got, e)
	}
}

// P5.4: records' bytes, written down: four bytes how many, CRC-32C of these four and the record, it.
func TestRecordKnown(t *testing.T) {
	for b, want := range map[string][]byte{
		"":  {0x00, 0x00, 0x00, 0x00, 0x48, 0x67, 0x4b, 0xc7},
		"x": {0x00, 0x00, 0x00, 0x01, 0xad, 0x91, 0xe2, 0x80, 0x78},
	} {
		if got, e := Record([]byte(b)); e != api.OK || !bytes.Equal(got, want) {
			t.Errorf("%q: %x, %v; want %x", b, got, e, want)
		}
	}
}

// P5.4: Record: ErrLong of one byte more than MaxRecord, and of many more.
func TestRecordLong(t *testing.T) {
	for _, n := range []int{api.MaxRecord + 1, api.MaxRecord + 2, 1 << 24} {
		if b, e := Record(make([]byte, n)); e != api.ErrLong || len(b) != 0 {
			t.Errorf("of %d bytes: %d, %v", n, len(b), e)
		}
	}
	if api.MaxRecord != 1<<20 {
		t.Error(api.MaxRecord)
	}
}

// Rules: what Record answers is in new memory; what is handed in is not changed.
func TestRecordMemory(t *testing.T) {
	b := make([]byte, 4, 99)
	copy(b, "abcd")
	one, _ := Record(b)
	two, _ := Record(b)
	clear(one[:cap(one)])
	if string(b) != "abcd" || !bytes.Equal(b[4:cap(b)], make([]byte, 95)) || string(two) != raw("abcd") {
		t.Error(b[:cap(b)], two)
	}
	b[0] = 'X'
	if string(two) != raw("abcd") {
		t.Error("shared with what was handed in")
	}
}

func expectWhole(t *testing.T, what, b string, records []string, size int, isRight bool) {
	t.Helper()
	given := []byte(b)
	got, n, is := Whole(given)
	same := len(got) == len(records)
	for i := 0; same && i < len(got); i++ {
		same = string(got[i]) == records[i]
	}
	if !same || n != size || is != isRight || string(given) != b {
		t.Errorf("%s: %.60q, %d, %v; want %.60q, %d, %v", what, got, n, is, records, size, isRight)
	}
}

// P5.4: Whole: of no bytes no records, and all right.
func TestWholeOfNothing(t *testing.T) {
	expectWhole(t, "no bytes", "", nil, 0, true)
	if got, n, is := Whole(nil); len(got) != 0 || n != 0 || !is {
		t.Error("nil", got, n, is)
	}
}

// P5.4: Whole: records of all sizes, one behind the other.
func TestWhole(t *testing.T) {
	longest := strings.Repeat("z", api.MaxRecord)
	for _, records := range [][]string{{""}, {"", ""}, {"x"}, {"ab", ""}, {"", "ab", "", "c"}, {longest}, {"x", longest, "y"}} {
		b := ""
		for _, r := range records {
			b += raw(r)
		}
		expectWhole(t, "whole", b, records, len(b), true)
	}
	expectWhole(t, "a record of records", raw(raw("x")+raw("")), []string{raw("x") + raw("")}, 25, true)
}

// P5.4: Whole: cut off behind each of its bytes, a row of records has those that are whole there; the rest is torn.
func TestWholeTorn(t *testing.T) {
	records := []string{"one", "", "three", "x"}
	b, ends := "", []int{0}
	for _, r := range records {
		b += raw(r)
		ends = append(ends, len(b))
	}
	whole := 0
	for n := range len(b) + 1 {
		if whole+1 < len(ends) && n == ends[whole+1] {
			whole++
		}
		expectWhole(t, "torn", b[:n], records[:whole], ends[whole], true)
	}
}

// P5.4: a torn rest's sum is not asked for: what is torn has fewer bytes than it says.
func TestWholeTornWrong(t *testing.T) {
	for _, rest := range []string{spoiled("x")[:8], "\x00\x00\x00\x02????x", "\xff\xff\xff\xff????", "\xff\xff\xff\xff????" + strings.Repeat("x", 99), "\x00\x00\x00\x00\x00\x00\x00", "\x00"} {
		expectWhole(t, "torn", raw("ab")+rest, []string{"ab"}, 10, true)
	}
}

// Words: a record has at most MaxRecord bytes: what says more is none, and what stands there is a torn rest, however many bytes it has.
func TestWholeTooLong(t *testing.T) {
	long := raw(strings.Repeat("z", api.MaxRecord+1))
	expectWhole(t, "too long", long, nil, 0, true)
	expectWhole(t, "too long, behind one", raw("ab")+long+raw("c"), []string{"ab"}, 10, true)
}

// P5.4: Whole: the first one whose sum is wrong ends them: in front, in the middle, at the end; with a torn rest behind, and with others that are wrong.
func TestWholeWrong(t *testing.T) {
	expectWhole(t, "the only one", spoiled("a"), nil, 0, false)
	expectWhole(t, "one of no bytes", spoiled(""), nil, 0, false)
	expectWhole(t, "the first one", spoiled("a")+raw("b")+raw("c"), nil, 0, false)
	expectWhole(t, "the middle one", raw("a")+spoiled("b")+raw("c"), []string{"a"}, 9, false)
	expectWhole(t, "the last one", raw("a")+raw("b")+spoiled("c"), []string{"a", "b"}, 18, false)
	expectWhole(t, "with a torn rest behind", raw("a")+spoiled("b")+"\x00", []string{"a"}, 9, false)
	expectWhole(t, "two", raw("a")+spoiled("b")+raw("c")+spoiled("d"), []string{"a"}, 9, false)
	expectWhole(t, "noughts", strings.Repeat("\x00", 16), nil, 0, false)
}

// P5.4: whichever bit of a record is turned over, it is not told: its sum is wrong, or it is torn.
func TestWholeEachBit(t *testing.T) {
	good := raw("a") + raw("bcd")
	for i := range 8 * len(raw("bcd")) {
		b := []byte(good)
		at := 9 + i/8
		b[at] ^= 1 << (i % 8)
		got, n, is := Whole(b)
		// Only of more bytes than there are it is torn.
		isTorn := i/8 < 4 && b[9]|b[10]|b[11] != 0 || i/8 == 3 && b[12] > 3
		if len(got) != 1 || string(got[0]) != "a" || n != 9 || is != isTorn {
			t.Errorf("bit %d: %q, %d, %v", i, got, n, is)
		}
	}
}

// P5.4: the sum goes over how many bytes there are, too: noughts that are cut off, or put behind, are found out.
func TestWholeSumOfSize(t *testing.T) {
	r := []byte(raw("\x00\x00"))
	r[3] = 1
	expectWhole(t, "one nought less", string(r[:9]), nil, 0, false)
	r[3] = 3
	expectWhole(t, "one nought more", string(r)+"\x00", nil, 0, false)
}

// Rules: what Whole answers is in new memory, record by record.
func TestWholeMemory(t *testing.T) {
	given := []byte(raw("ab") + raw("cd") + raw(""))
	one, _, _ := Whole(given)
	clear(given)
	_ = append(one[0], "XXXXXXXXXXXXXXXX"...)
	_ = append(one[2], "XXXXXXXXXXXXXXXX"...)
	if string(one[0]) != "ab" || string(one[1]) != "cd" || string(one[2]) != "" {
		t.Errorf("%q", one)
	}
}

// P0.6: Whole ends, whatever it is given.
func TestWholeOfAnything(t *testing.T) {
	source := rand.New(rand.NewPCG(5, 4))
	for range 3000 {
		b := make([]byte, source.IntN(60))
		for i := range b {
			b[i] = byte(source.IntN(3)) * byte(source.IntN(256))
		}
		if source.IntN(2) == 0 {
			b = append([]byte(raw("ab")), b...)
		}
		mustPanicNot(t, "Whole", func() {
			records, n, _ := Whole(b)
			row := ""
			for _, r := range records {
				row += raw(string(r))
			}
			if row != string(b[:n]) {
				t.Errorf("Whole(%x): %q, %d", b, records, n)
			}
		})
	}
}
