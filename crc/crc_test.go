package crc

import (
	"bytes"
	"hash/crc32"
	"math"
	"math/rand/v2"
	"testing"
)

const ones = math.MaxUint32

// someSums are those at the edges, and others.
func someSums() []uint32 {
	sums := []uint32{0, 1, 2, 0x80000000, 0x7fffffff, ones - 1, ones, 0x82f63b78, 0x1edc6f41, 3808858755, 3251651376}
	for i := range 32 {
		sums = append(sums, 1<<i)
	}
	source := rand.New(rand.NewPCG(2, 1))
	for range 60 {
		sums = append(sums, source.Uint32())
	}
	return sums
}

func someBytes(source *rand.Rand, n int) []byte {
	b := make([]byte, n)
	for i := range b {
		b[i] = byte(source.Uint32())
	}
	return b
}

// bitIn is the chapter's sentence, word by word.
func bitIn(register uint32, bit byte) uint32 {
	same := register&1 == uint32(bit)
	register >>= 1
	if !same {
		register ^= 0x82f63b78
	}
	return register
}

// slowMore is the sum by single bits.
func slowMore(sum uint32, b []byte) uint32 {
	register := ^sum
	for _, x := range b {
		for i := range 8 {
			register = bitIn(register, x>>i&1)
		}
	}
	return ^register
}

// The chapter's examples.
func TestExamples(t *testing.T) {
	for _, c := range []struct {
		name      string
		got, want uint32
	}{
		{"Sum()", Sum(), 0},
		{"Sum(123456789)", Sum([]byte("123456789")), 3808858755},
		{"Sum(a)", Sum([]byte("a")), 3251651376},
		{"More(Sum(12345), 6789)", More(Sum([]byte("12345")), []byte("6789")), 3808858755},
		{"Less(3808858755, 6789)", Less(3808858755, []byte("6789")), Sum([]byte("12345"))},
	} {
		if c.got != c.want {
			t.Errorf("%s = %d; want %d", c.name, c.got, c.want)
		}
	}
}

// P2.1: sums that others tell of CRC-32C (RFC 3720, B.4).
func TestSumKnown(t *testing.T) {
	rising, falling := make([]byte, 32), make([]byte, 32)
	for i := range 32 {
		rising[i], falling[i] = byte(i), byte(31-i)
	}
	for _, c := range []struct {
		b    []byte
		want uint32
	}{
		{make([]byte, 32), 0x8a9136aa},
		{bytes.Repeat([]byte{255}, 32), 0x62a8ab43},
		{rising, 0x46dd794e},
		{falling, 0x113fdb5c},
	} {
		if s := Sum(c.b); s != c.want {
			t.Errorf("Sum(%x) = %x; want %x", c.b, s, c.want)
		}
	}
}

// P2.1: the sum is the register's by single bits, and the library's.
func TestSumIsTheRegisters(t *testing.T) {
	library := crc32.MakeTable(crc32.Castagnoli)
	source := rand.New(rand.NewPCG(2, 2))
	for n := range 70 {
		for range 5 {
			b := someBytes(source, n)
			if s := Sum(b); s != slowMore(0, b) || s != crc32.Checksum(b, library) {
				t.Errorf("Sum(%x) = %x; want %x", b, s, slowMore(0, b))
			}
		}
	}
	long := someBytes(source, 1<<20)
	if s := Sum(long); s != crc32.Checksum(long, library) {
		t.Errorf("of many bytes: %x", s)
	}
}

// P2.1: each byte goes in by its own step, whatever the sum ahead of it.
func TestMoreEachByte(t *testing.T) {
	for _, sum := range someSums() {
		for i := range 256 {
			b := []byte{byte(i)}
			if s := More(sum, b); s != slowMore(sum, b) {
				t.Errorf("More(%x, %x) = %x; want %x", sum, b, s, slowMore(sum, b))
			}
		}
	}
}

// P2.1: no list, empty lists, and empty ones among others.
func TestSumEmptyLists(t *testing.T) {
	for _, l := range [][][]byte{nil, {}, {nil}, {{}}, {nil, {}, nil}} {
		if s := Sum(l...); s != 0 {
			t.Errorf("Sum of %d lists without a byte = %x", len(l), s)
		}
	}
	text := []byte("123456789")
	for _, l := range [][][]byte{
		{nil, text},
		{text, nil},
		{{}, text, {}},
		{nil, text[:4], {}, nil, text[4:], {}},
	} {
		if s := Sum(l...); s != 3808858755 {
			t.Errorf("Sum with empty lists = %d", s)
		}
	}
}

// P2.1: where bytes are parted, in two, in three, in single ones, does not matter; their order does.
func TestSumParted(t *testing.T) {
	b := someBytes(rand.New(rand.NewPCG(2, 3)), 40)
	want := Sum(b)
	var single [][]byte
	for i := range len(b) + 1 {
		for j := i; j <= len(b); j++ {
			if s := Sum(b[:i], b[i:j], b[j:]); s != want {
				t.Errorf("parted at %d and %d: %x; want %x", i, j, s, want)
			}
		}
		if s := More(Sum(b[:i]), b[i:]); s != want {
			t.Errorf("More from %d on: %x; want %x", i, s, want)
		}
		if i < len(b) {
			single = append(single, b[i:i+1])
		}
	}
	if s := Sum(single...); s != want {
		t.Errorf("of single bytes: %x; want %x", s, want)
	}
	if Sum([]byte("ab"), []byte("cd")) == Sum([]byte("cd"), []byte("ab")) {
		t.Error("two orders have one sum")
	}
}

// P2.1, P2.2: no byte changes no sum.
func TestNoByte(t *testing.T) {
	for _, sum := range someSums() {
		for _, b := range [][]byte{nil, {}} {
			if More(sum, b) != sum || Less(sum, b) != sum {
				t.Errorf("%x: More %x, Less %x", sum, More(sum, b), Less(sum, b))
			}
		}
	}
}

// P2.2: one byte that went in goes out, and one that goes out may go in, of each sum.
func TestLessEachByte(t *testing.T) {
	for _, sum := range someSums() {
		for i := range 256 {
			b := []byte{byte(i)}
			if s := Less(More(sum, b), b); s != sum {
				t.Errorf("Less of More(%x, %x) = %x", sum, b, s)
			}
			if s := More(Less(sum, b), b); s != sum {
				t.Errorf("More of Less(%x, %x) = %x", sum, b, s)
			}
		}
	}
}

// P2.2: the latest byte goes out first: what is left is the sum of the front, wherever the bytes are cut.
func TestLessIsTheFronts(t *testing.T) {
	source := rand.New(rand.NewPCG(2, 4))
	for _, n := range []int{1, 2, 3, 4, 5, 8, 33} {
		b := someBytes(source, n)
		for i := range n + 1 {
			if s := Less(Sum(b), b[i:]); s != Sum(b[:i]) {
				t.Errorf("Less(Sum(%x), %x) = %x; want %x", b, b[i:], s, Sum(b[:i]))
			}
		}
	}
	long := someBytes(source, 1<<20)
	if s := Less(Sum(long), long[1000:]); s != Sum(long[:1000]) {
		t.Errorf("of many bytes: %x", s)
	}
}

// P2.2: more bytes go in and out again, also by pieces, of any sum.
func TestLessOfMore(t *testing.T) {
	source := rand.New(rand.NewPCG(2, 5))
	for _, sum := range someSums() {
		b := someBytes(source, 1+source.IntN(20))
		i := source.IntN(len(b))
		if s := Less(More(sum, b), b); s != sum {
			t.Errorf("Less of More(%x, %x) = %x", sum, b, s)
		}
		if s := More(Less(sum, b), b); s != sum {
			t.Errorf("More of Less(%x, %x) = %x", sum, b, s)
		}
		if s := Less(Less(sum, b[i:]), b[:i]); s != Less(sum, b) {
			t.Errorf("Less(%x, %x) by pieces = %x; want %x", sum, b, s, Less(sum, b))
		}
	}
}

// P2.3: from any sum to any other, and to itself.
func TestFit(t *testing.T) {
	for _, sum := range someSums() {
		for _, want := range someSums() {
			four := Fit(sum, want)
			if s := slowMore(sum, four[:]); s != want {
				t.Errorf("Fit(%x, %x) = %x, which makes %x", sum, want, four, s)
			}
			if s := More(sum, four[:]); s != want {
				t.Errorf("More by Fit(%x, %x) = %x", sum, want, s)
			}
		}
	}
}

// P2.3: bytes that bring one sum to another are told again, so that there are no other four.
func TestFitTellsWhatWentIn(t *testing.T) {
	source := rand.New(rand.NewPCG(2, 6))
	for _, sum := range someSums() {
		edges := [][4]byte{{}, {255, 255, 255, 255}, {1, 2, 3, 4}, {0, 0, 0, 1}, {1, 0, 0, 0}}
		for _, four := range append(edges, [4]byte(someBytes(source, 4))) {
			if f := Fit(sum, More(sum, four[:])); f != four {
				t.Errorf("Fit(%x, ..) = %x; want %x", sum, f, four)
			}
		}
	}
}

// P2.3: none of the four bytes near it fits: one bit, two bits, or one byte apart.
func TestFitNoOther(t *testing.T) {
	for _, sum := range []uint32{0, 1, ones, 3808858755} {
		for _, want := range []uint32{0, 1, ones, 3808858755, 3251651376} {
			fit := Fit(sum, want)
			expectNone := func(other [4]byte) {
				if other != fit && More(sum, other[:]) == want {
					t.Errorf("%x and %x fit from %x to %x", fit, other, sum, want)
				}
			}
			for i := range 32 {
				for j := range 32 {
					other := fit
					other[i/8] ^= 1 << (i % 8)
					if i != j {
						other[j/8] ^= 1 << (j % 8)
					}
					expectNone(other)
				}
			}
			for i := range fit {
				for x := range 256 {
					other := fit
					other[i] = byte(x)
					expectNone(other)
				}
			}
		}
	}
}

// flip turns over bits of a copy: those of the pattern, from a place on, by the order in which they go in.
func flip(b []byte, place int, pattern uint32) []byte {
	c := bytes.Clone(b)
	for i := range 32 {
		if at := place + i; pattern>>i&1 == 1 && at < 8*len(c) {
			c[at/8] ^= 1 << (at % 8)
		}
	}
	return c
}

// P2.4: what differs within 32 bits has another sum: at the front, at the end, over the ends of bytes, at each place between.
func TestNearBitsChangeTheSum(t *testing.T) {
	source := rand.New(rand.NewPCG(2, 7))
	patterns := []uint32{1, 3, 0x101, 0x80000001, 0xff, 0xffff, ones, 0x82f63b78, 0x05ec76f1, 0xedb88320, 0xc0000003}
	for range 40 {
		patterns = append(patterns, source.Uint32()|1)
	}
	for _, n := range []int{1, 2, 3, 4, 5, 9, 24} {
		b := someBytes(source, n)
		sum := Sum(b)
		for place := range 8 * n {
			for _, pattern := range patterns {
				other := flip(b, place, pattern)
				// A pattern whose set bits all stand beyond the end changes nothing.
				if !bytes.Equal(b, other) && Sum(other) == sum {
					t.Errorf("%x and %x have one sum", b, other)
				}
			}
		}
	}
}

// P2.4: it is no seal: 33 bits that follow one another may leave the sum as it is, where 32 of them do not.
func TestThirtyThreeBitsMayKeepTheSum(t *testing.T) {
	b := make([]byte, 10)
	// Together the whole polynomial, its highest power first, as bits go in.
	other := flip(b, 3, 1)
	other = flip(other, 4, 0x82f63b78)
	if bytes.Equal(b, other) || Sum(b) != Sum(other) {
		t.Errorf("%x: %x and %x: %x", b, Sum(b), other, Sum(other))
	}
	if s := Sum(flip(b, 4, 0x82f63b78)); s == Sum(b) {
		t.Errorf("32 bits of it: %x", s)
	}
}

// P2.4: whoever may choose four bytes, at the end or between others, chooses the sum.
func TestFourBytesChooseTheSum(t *testing.T) {
	head, tail := []byte("a record of stake 1"), []byte(" and what follows")
	for _, want := range someSums() {
		end := Fit(Sum(head), want)
		if s := Sum(head, end[:]); s != want {
			t.Errorf("at the end: %x; want %x", s, want)
		}
		between := Fit(Sum(head), Less(want, tail))
		if s := Sum(head, between[:], tail); s != want {
			t.Errorf("between others: %x; want %x", s, want)
		}
	}
}

// What is handed in is not changed, and what is answered hangs on it alone.
func TestNothingIsKept(t *testing.T) {
	b := []byte("123456789")
	keep := bytes.Clone(b)
	l := [][]byte{b[:4], nil, b[4:]}
	first := [3]uint32{Sum(l...), More(7, b), Less(7, b)}
	four := Fit(7, 9)
	if !bytes.Equal(b, keep) || len(l) != 3 || len(l[0]) != 4 || l[1] != nil || len(l[2]) != 5 {
		t.Error("what was handed in was changed:", b, l)
	}
	four[0]++
	if four == Fit(7, 9) {
		t.Error("an answer is still Fit's")
	}
	if again := [3]uint32{Sum(l...), More(7, b), Less(7, b)}; again != first {
		t.Error("answers differ:", first, again)
	}
}
