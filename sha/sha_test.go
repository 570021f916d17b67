package sha

import (
	"bytes"
	"crypto/sha256"
	"encoding/hex"
	"math"
	"math/big"
	"math/rand/v2"
	"testing"

	"landmark/api"
)

func someBytes(source *rand.Rand, n int) []byte {
	b := make([]byte, n)
	for i := range b {
		b[i] = byte(source.Uint32())
	}
	return b
}

func someHash(source *rand.Rand) api.Hash { return api.Hash(someBytes(source, 32)) }

// The chapter's examples.
func TestExamples(t *testing.T) {
	if h := Sum(); [4]byte(h[:4]) != [4]byte{227, 176, 196, 66} {
		t.Error("Sum():", h)
	}
	if h := Sum([]byte("abc")); [4]byte(h[:4]) != [4]byte{186, 120, 22, 191} {
		t.Error("Sum(abc):", h)
	}
	if Start(0) != 1779033703 || Constant(0) != 1116352408 {
		t.Error(Start(0), Constant(0))
	}
}

// P3.1: hashes that others tell (FIPS 180-4's examples).
func TestSumKnown(t *testing.T) {
	for _, c := range []struct{ message, want string }{
		{"", "e3b0c44298fc1c149afbf4c8996fb92427ae41e4649b934ca495991b7852b855"},
		{"abc", "ba7816bf8f01cfea414140de5dae2223b00361a396177a9cb410ff61f20015ad"},
		{"abcdbcdecdefdefgefghfghighijhijkijkljklmklmnlmnomnopnopq", "248d6a61d20638b8e5c026930c3e6039a33ce45964ff2167f6ecedd419db06c1"},
		{"abcdefghbcdefghicdefghijdefghijkefghijklfghijklmghijklmnhijklmnoijklmnopjklmnopqklmnopqrlmnopqrsmnopqrstnopqrstu", "cf5b16a778af8380036ce59e7b0492370b249b11e8f07a51afac45037afee9d1"},
		{string(bytes.Repeat([]byte("a"), 1000000)), "cdc76e5c9914fb9281a1c7e284d73e67f1809a48a497200e046d39ccc7112cd0"},
	} {
		h := Sum([]byte(c.message))
		if s := hex.EncodeToString(h[:]); s != c.want {
			t.Errorf("of %d bytes: %s; want %s", len(c.message), s, c.want)
		}
	}
}

// P3.1: every length from none to above four blocks, of noughts, of ones, of any bytes: what follows stands in the same block or in the next one.
func TestSumEveryLength(t *testing.T) {
	source := rand.New(rand.NewPCG(3, 1))
	for n := range 270 {
		for _, b := range [][]byte{make([]byte, n), bytes.Repeat([]byte{255}, n), someBytes(source, n)} {
			if h := Sum(b); h != api.Hash(sha256.Sum256(b)) {
				t.Errorf("Sum(%x) = %x", b, h)
			}
		}
	}
}

// P3.1: no list, empty lists, and empty ones among others.
func TestSumEmptyLists(t *testing.T) {
	none := api.Hash(sha256.Sum256(nil))
	for _, l := range [][][]byte{nil, {}, {nil}, {{}}, {nil, {}, nil}} {
		if h := Sum(l...); h != none {
			t.Errorf("Sum of %d lists without a byte = %x", len(l), h)
		}
	}
	for _, n := range []int{3, 63, 64, 65, 128} {
		b := someBytes(rand.New(rand.NewPCG(3, 2)), n)
		want := api.Hash(sha256.Sum256(b))
		for _, l := range [][][]byte{
			{nil, b},
			{b, nil},
			{{}, b, {}},
			{nil, b[:2], {}, nil, b[2:], {}},
		} {
			if h := Sum(l...); h != want {
				t.Errorf("of %d bytes with empty lists: %x", n, h)
			}
		}
	}
}

// P3.1: where a message is parted, in two, in three, in pieces of one length, does not matter; its bytes' order does.
func TestSumParted(t *testing.T) {
	b := someBytes(rand.New(rand.NewPCG(3, 3)), 150)
	want := api.Hash(sha256.Sum256(b))
	for i := range len(b) + 1 {
		for j := i; j <= len(b); j++ {
			if h := Sum(b[:i], b[i:j], b[j:]); h != want {
				t.Errorf("parted at %d and %d: %x; want %x", i, j, h, want)
			}
		}
	}
	for size := 1; size <= len(b); size++ {
		var pieces [][]byte
		for rest := b; len(rest) > 0; rest = rest[min(size, len(rest)):] {
			pieces = append(pieces, rest[:min(size, len(rest))])
		}
		if h := Sum(pieces...); h != want {
			t.Errorf("in pieces of %d: %x; want %x", size, h, want)
		}
	}
	if Sum([]byte("ab"), []byte("cd")) == Sum([]byte("cd"), []byte("ab")) {
		t.Error("two orders have one hash")
	}
}

// P3.1: a piece of several blocks, at each place of a block.
func TestSumLongPieces(t *testing.T) {
	source := rand.New(rand.NewPCG(3, 4))
	long := someBytes(source, 1000)
	for n := range 130 {
		head := someBytes(source, n)
		want := api.Hash(sha256.Sum256(append(bytes.Clone(head), long...)))
		if h := Sum(head, long); h != want {
			t.Errorf("behind %d bytes: %x; want %x", n, h, want)
		}
	}
}

// P3.1: a length in bits that has no room in 32 bits.
func TestSumGreatLength(t *testing.T) {
	piece := someBytes(rand.New(rand.NewPCG(3, 5)), 1<<20)
	pieces := make([][]byte, 512)
	library := sha256.New()
	for i := range pieces {
		pieces[i] = piece
		library.Write(piece)
	}
	library.Write([]byte{1})
	if h := Sum(append(pieces, []byte{1})...); !bytes.Equal(h[:], library.Sum(nil)) {
		t.Errorf("of 2^29 + 1 bytes: %x", h)
	}
}

// P3.1: one bit more or less, anywhere, or one byte more at an end, is another hash.
func TestSumOtherMessages(t *testing.T) {
	b := someBytes(rand.New(rand.NewPCG(3, 6)), 130)
	h := Sum(b)
	for i := range 8 * len(b) {
		other := bytes.Clone(b)
		other[i/8] ^= 1 << (i % 8)
		if Equal(Sum(other), h) {
			t.Error("one hash, though bit", i, "is another one")
		}
	}
	for _, x := range []byte{0, 128, 255} {
		if Equal(Sum(b, []byte{x}), h) || Equal(Sum([]byte{x}, b), h) {
			t.Error("one hash with a byte more:", x)
		}
	}
	// What follows a message, written out, is not the message.
	if Equal(Sum([]byte{0x80}), Sum()) || Equal(Sum(append([]byte{0x80}, make([]byte, 63)...)), Sum()) {
		t.Error("no byte, and what follows none, have one hash")
	}
}

// P3.1: equal are those of all bytes the same: one bit that differs, wherever it is, is enough.
func TestEqual(t *testing.T) {
	source := rand.New(rand.NewPCG(3, 7))
	for _, a := range []api.Hash{{}, Sum(), someHash(source), someHash(source)} {
		b := a
		if !Equal(a, b) {
			t.Errorf("%x is not itself", a)
		}
		for i := range 256 {
			b = a
			b[i/8] ^= 1 << (i % 8)
			if Equal(a, b) || Equal(b, a) {
				t.Errorf("%x and %x are equal", a, b)
			}
		}
	}
	if Equal(someHash(source), someHash(source)) {
		t.Error("two hashes that have nothing in common are equal")
	}
}

// primes are the first ones.
func primes(n int) []int64 {
	var l []int64
search:
	for x := int64(2); len(l) < n; x++ {
		for _, p := range l {
			if x%p == 0 {
				continue search
			}
		}
		l = append(l, x)
	}
	return l
}

// rootBits are the first 32 bits of the fraction of a root: the greatest number whose power is not above the prime, by 2^32.
func rootBits(prime int64, power int) uint32 {
	aim := new(big.Int).Lsh(big.NewInt(prime), uint(32*power))
	root := new(big.Int)
	for i := 40; i >= 0; i-- {
		root.SetBit(root, i, 1)
		if new(big.Int).Exp(root, big.NewInt(int64(power)), nil).Cmp(aim) > 0 {
			root.SetBit(root, i, 0)
		}
	}
	return uint32(root.Uint64())
}

// P3.3: the words are those of the primes' roots.
func TestStartAndConstant(t *testing.T) {
	for i, p := range primes(64) {
		if want := rootBits(p, 3); Constant(i) != want {
			t.Errorf("Constant(%d) = %x; want %x", i, Constant(i), want)
		}
		if i >= 8 {
			continue
		}
		if want := rootBits(p, 2); Start(i) != want {
			t.Errorf("Start(%d) = %x; want %x", i, Start(i), want)
		}
	}
}

// P3.3: numbers on both sides of those that there are.
func TestNoSuchWord(t *testing.T) {
	for _, i := range []int{-1, -2, -8, -64, 64, 65, 128, 256, 1 << 32, math.MinInt, math.MinInt + 1, math.MaxInt} {
		if Start(i) != 0 || Constant(i) != 0 {
			t.Errorf("%d: %x, %x", i, Start(i), Constant(i))
		}
	}
	for i := 8; i < 64; i++ {
		if Start(i) != 0 || Constant(i) == 0 {
			t.Errorf("%d: %x, %x", i, Start(i), Constant(i))
		}
	}
}

// P3.4: a name of names hangs on them alone, on each of them and on their order, whatever stands around them in memory.
func TestNamesOfNames(t *testing.T) {
	source := rand.New(rand.NewPCG(3, 8))
	for range 50 {
		a, b := someHash(source), someHash(source)
		name := Sum(a[:], b[:])
		around := append(append(append(someBytes(source, 5), a[:]...), b[:]...), someBytes(source, 5)...)
		if Sum(around[5:37], around[37:69]) != name || Sum(around[5:69:69]) != name {
			t.Error("a name hangs on what stands around")
		}
		if name != api.Hash(sha256.Sum256(around[5:69])) {
			t.Errorf("the name of %x and %x is %x", a, b, name)
		}
		if Sum(b[:], a[:]) == name || Sum(a[:]) == name || Sum(b[:]) == name || Sum(a[:], a[:]) == name {
			t.Error("other names have this name")
		}
		i := source.IntN(256)
		other := b
		other[i/8] ^= 1 << (i % 8)
		if Sum(a[:], other[:]) == name || Sum(other[:], a[:]) == name {
			t.Error("a name does not hang on bit", i)
		}
	}
}

// P3.4: a name at the top of a tree of names is another one when one bit at its foot is.
func TestNamesOfNamesOfNames(t *testing.T) {
	top := func(l [8]api.Hash) api.Hash {
		for n := len(l); n > 1; n /= 2 {
			for i := range n / 2 {
				l[i] = Sum(l[2*i][:], l[2*i+1][:])
			}
		}
		return l[0]
	}
	var foot [8]api.Hash
	for i := range foot {
		foot[i] = Sum([]byte{byte(i)})
	}
	name := top(foot)
	if top(foot) != name {
		t.Error("two names of one tree")
	}
	for i := range foot {
		other := foot
		other[i][31] ^= 1
		if top(other) == name {
			t.Error("the top does not hang on", i)
		}
	}
}

// What is handed in is not changed, and what is answered hangs on it alone.
func TestNothingIsKept(t *testing.T) {
	b := someBytes(rand.New(rand.NewPCG(3, 9)), 200)
	keep := bytes.Clone(b)
	l := [][]byte{b[:70], nil, b[70:100]}
	first := Sum(l...)
	if !bytes.Equal(b, keep) || len(l) != 3 || len(l[0]) != 70 || l[1] != nil || len(l[2]) != 30 {
		t.Error("what was handed in was changed:", b, l)
	}
	changed := first
	changed[0]++
	Sum([]byte("something else"))
	if again := Sum(l...); again != first || again == changed {
		t.Error("answers differ:", first, again)
	}
}
