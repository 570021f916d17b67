package key

import (
	"bytes"
	"math"
	"math/rand/v2"
	"slices"
	"testing"

	"landmark/api"
)

// P8.2: the chapter's example.
func TestExample(t *testing.T) {
	k, h := Make(Seed("a")), Seed("h")
	expect(t, k.Root(), 3, h, signed(t, k, 3, h), api.OK, "the example")
}

// P8.2: signatures by each number, byte by byte; P8.3: each checks.
func TestSign(t *testing.T) {
	for _, seed := range seeds() {
		k, levels := Make(seed), textLevels(seed)
		for _, h := range hashes() {
			for i := range 16 {
				sig := signed(t, k, i, h)
				if len(sig) != 1216 || !bytes.Equal(sig, textSign(seed, levels, i, h)) {
					t.Errorf("of the seed %x, by %d, of %x: %d bytes, %x", seed, i, h, len(sig), sig)
				}
				expect(t, k.Root(), i, h, sig, api.OK, "what was signed")
			}
		}
	}
}

// P8.2: behind layer 6's signature there is the leaf's path, from it up.
func TestSignPath(t *testing.T) {
	seed := Seed("path")
	k, levels := Make(seed), textLevels(seed)
	for i := range 16 {
		sig := signed(t, k, i, all(9))
		for height := range 4 {
			at := 1088 + 32*height
			if beside := levels[height][i>>height^1]; !bytes.Equal(sig[at:at+32], beside[:]) {
				t.Errorf("by %d: the path's hash %d is %x", i, height, sig[at:at+32])
			}
		}
	}
}

// P8.2: numbers that there are not, of a key that was asked, and of one that was not; and the first and the last one that there are.
func TestSignWrongNumber(t *testing.T) {
	h := all(3)
	asked := Make(Seed("a"))
	asked.Root()
	for _, k := range []*Key{asked, Make(Seed("a"))} {
		for _, i := range wrongNumbers() {
			if sig, e := k.Sign(i, h); e != api.ErrArg || len(sig) != 0 {
				t.Errorf("Sign(%d, h): %d bytes, %v", i, len(sig), e)
			}
		}
		for _, i := range []int{0, 15} {
			if sig, e := k.Sign(i, h); e != api.OK || len(sig) != 1216 {
				t.Errorf("Sign(%d, h): %d bytes, %v", i, len(sig), e)
			}
		}
	}
}

// P8.2: no key comes ahead of a number that there is not.
func TestSignWhichError(t *testing.T) {
	for _, k := range none() {
		for _, i := range append(wrongNumbers(), 0, 7, 15) {
			if sig, e := k.Sign(i, all(3)); e != api.ErrNil || len(sig) != 0 {
				t.Errorf("no key: Sign(%d, h): %d bytes, %v", i, len(sig), e)
			}
		}
	}
}

// wrongSizes are bytes of which none is a signature: of other sizes, beginnings and ends of some that was.
func wrongSizes(sig []byte) [][]byte {
	long := append(append(bytes.Clone(sig), sig...), 1)
	return [][]byte{
		nil, {}, long[:0], long[:1], long[:32], long[:128], long[:1087], long[:1088], long[:1089], long[:1120], long[:1184],
		long[:1215], long[1:1216], long[:1215:1215], long[:1217], long[:1217:1217], long[:1248], long[:2304], long[:2432], long,
		append([]byte{0}, sig...), append(bytes.Clone(sig), 0), make([]byte, 1215), make([]byte, 1217), make([]byte, 1<<20),
	}
}

// P8.2: other sizes, however the bytes lie in memory.
func TestCheckWrongSize(t *testing.T) {
	k, h := Make(Seed("size")), all(4)
	for _, i := range []int{0, 6, 15} {
		sig := signed(t, k, i, h)
		for _, b := range wrongSizes(sig) {
			expect(t, k.Root(), i, h, b, api.ErrBytes, "another size")
		}
		long := append(bytes.Clone(sig), 1, 2, 3)
		expect(t, k.Root(), i, h, long[:1216], api.OK, "bytes behind it in memory")
		expect(t, k.Root(), i, h, long[:1216:1216], api.OK, "no bytes behind it in memory")
	}
}

// P8.2: numbers that there are not, whatever else is right.
func TestCheckWrongNumber(t *testing.T) {
	k, h := Make(Seed("number")), all(4)
	for _, own := range []int{0, 3, 15} {
		sig := signed(t, k, own, h)
		for _, i := range wrongNumbers() {
			expect(t, k.Root(), i, h, sig, api.ErrArg, "no number")
		}
		expect(t, k.Root(), own, h, sig, api.OK, "its own number")
	}
	for _, own := range []int{math.MinInt, math.MaxInt, -1, 16} {
		expect(t, k.Root(), own, h, make([]byte, 1216), api.ErrArg, "no number")
	}
}

// P8.2: of several errors that could be told, the number's first, then the size's.
func TestCheckWhichError(t *testing.T) {
	k, h := Make(Seed("which")), all(4)
	sig := signed(t, k, 2, h)
	for _, b := range wrongSizes(sig) {
		for _, i := range wrongNumbers() {
			expect(t, k.Root(), i, h, b, api.ErrArg, "number and size")
			expect(t, all(1), i, all(2), b, api.ErrArg, "number, size, root and hash")
		}
		for _, i := range []int{0, 1, 2, 15} {
			expect(t, all(1), i, h, b, api.ErrBytes, "size and root")
			expect(t, k.Root(), i, all(2), b, api.ErrBytes, "size and hash")
		}
	}
	for _, i := range wrongNumbers() {
		expect(t, all(1), i, h, sig, api.ErrArg, "number and root")
		expect(t, k.Root(), i, all(2), sig, api.ErrArg, "number and hash")
	}
}

// P8.2: bytes that nobody signed: noughts, ones, any; for a root of noughts, too.
func TestCheckAny(t *testing.T) {
	source := rand.New(rand.NewPCG(8, 3))
	root := Make(Seed("any")).Root()
	for _, sig := range [][]byte{make([]byte, 1216), bytes.Repeat([]byte{255}, 1216), someBytes(source, 1216), someBytes(source, 1216)} {
		for _, h := range hashes() {
			for _, r := range []api.Hash{root, {}, all(255), h} {
				for _, i := range []int{0, 1, 8, 15} {
					expect(t, r, i, h, sig, api.ErrSig, "what nobody signed")
				}
			}
		}
	}
}

// P8.2: bytes are taken for the root to which they lead by the chapter's words, and for no other one, whoever made them.
func TestCheckLeadsToTheRoot(t *testing.T) {
	source := rand.New(rand.NewPCG(8, 4))
	for range 40 {
		h, sig, i := someHash(source), someBytes(source, 1216), source.IntN(16)
		root := textReached(i, h, sig)
		expect(t, root, i, h, sig, api.OK, "to where they lead")
		expect(t, someHash(source), i, h, sig, api.ErrSig, "to where they do not lead")
		other := bytes.Clone(sig)
		other[source.IntN(1216)] ^= byte(1 << source.IntN(8))
		if textReached(i, h, other) != root {
			expect(t, root, i, h, other, api.ErrSig, "with a bit turned")
		}
	}
	k := Make(Seed("leads"))
	for i := range 16 {
		sig := signed(t, k, i, all(byte(i)))
		if textReached(i, all(byte(i)), sig) != k.Root() {
			t.Errorf("by %d: what was signed does not lead to the root", i)
		}
	}
}

// P8.3: what was signed by a number checks by it, and by no other one.
func TestEachNumber(t *testing.T) {
	k, h := Make(Seed("numbers")), Seed("hash")
	root := k.Root()
	for own := range 16 {
		sig := signed(t, k, own, h)
		for i := range 16 {
			want := api.ErrSig
			if i == own {
				want = api.OK
			}
			expect(t, root, i, h, sig, want, "each number")
		}
	}
}

// P8.3: what was signed checks for no other root: other keys', noughts, and its own with a bit turned.
func TestAnotherRoot(t *testing.T) {
	k, h := Make(Seed("root")), Seed("hash")
	root := k.Root()
	for _, i := range []int{0, 7, 15} {
		sig := signed(t, k, i, h)
		for _, seed := range seeds() {
			expect(t, Make(seed).Root(), i, h, sig, api.ErrSig, "another key's root")
		}
		for _, other := range []api.Hash{{}, all(255), h, Seed("root"), api.Hash(sig[1088:1120]), api.Hash(sig[1184:])} {
			expect(t, other, i, h, sig, api.ErrSig, "no root of the key's")
		}
		for bit := range 256 {
			other := root
			other[bit/8] ^= 1 << (bit % 8)
			expect(t, other, i, h, sig, api.ErrSig, "a root with a bit turned")
		}
	}
}

// P8.2, P8.3: what was signed checks for no hash whose first 16 bytes are others; layer 6's signature is of these alone.
func TestAnotherHash(t *testing.T) {
	k, h := Make(Seed("hashes")), Seed("hash")
	sig := signed(t, k, 11, h)
	for bit := range 256 {
		other := h
		other[bit/8] ^= 1 << (bit % 8)
		want := api.ErrSig
		if bit >= 128 {
			want = api.OK
		}
		expect(t, k.Root(), 11, other, sig, want, "a hash with a bit turned")
		if bytes.Equal(signed(t, k, 11, other), sig) != (bit >= 128) {
			t.Errorf("a signature of a hash whose bit %d is turned", bit)
		}
	}
	for _, other := range hashes() {
		expect(t, k.Root(), 11, other, sig, api.ErrSig, "another hash")
	}
}

// P8.3: with a byte of its path turned it does not check: each bit of each byte, and whole bytes.
func TestPathTurned(t *testing.T) {
	k, h := Make(Seed("turned")), Seed("hash")
	for _, i := range []int{0, 5, 10, 15} {
		sig := signed(t, k, i, h)
		for at := 1088; at < 1216; at++ {
			for _, turn := range []byte{1, 2, 4, 8, 16, 32, 64, 128, 255} {
				other := bytes.Clone(sig)
				other[at] ^= turn
				expect(t, k.Root(), i, h, other, api.ErrSig, "a path with a byte turned")
			}
		}
		expect(t, k.Root(), i, h, sig, api.OK, "the path as it was")
	}
}

// P8.2: with a byte of the part ahead of its path turned it does not check, either: in each chain the first and the last one.
func TestFrontTurned(t *testing.T) {
	k, h := Make(Seed("turned")), Seed("hash")
	sig := signed(t, k, 9, h)
	for chain := range 68 {
		for _, at := range []int{16 * chain, 16*chain + 7, 16*chain + 15} {
			for _, turn := range []byte{1, 128, 255} {
				other := bytes.Clone(sig)
				other[at] ^= turn
				expect(t, k.Root(), 9, h, other, api.ErrSig, "a front with a byte turned")
			}
		}
	}
}

// P8.2: parts of two signatures are no signature, and neither are its parts in another order.
func TestPartsOfTwo(t *testing.T) {
	k, h := Make(Seed("parts")), Seed("hash")
	a, b := signed(t, k, 4, h), signed(t, k, 5, h)
	other := signed(t, Make(Seed("others")), 4, h)
	for _, sig := range [][]byte{
		slices.Concat(a[:1088], b[1088:]), slices.Concat(b[:1088], a[1088:]),
		slices.Concat(a[:1088], other[1088:]), slices.Concat(other[:1088], a[1088:]),
		slices.Concat(a[1088:], a[:1088]),
		slices.Concat(a[:1088], a[1120:1152], a[1088:1120], a[1152:]),
		slices.Concat(a[:1088], a[1184:], a[1152:1184], a[1120:1152], a[1088:1120]),
		slices.Concat(a[16:32], a[:16], a[32:]),
	} {
		for _, i := range []int{4, 5} {
			expect(t, k.Root(), i, h, sig, api.ErrSig, "parts of signatures")
		}
	}
}

// Rules: what is handed in is as it was, and so is what stands behind it in memory.
func TestHandedIn(t *testing.T) {
	k, h := Make(Seed("handed")), Seed("hash")
	root := k.Root()
	whole := append(signed(t, k, 12, h), 1, 2, 3)
	keepHash, keepRoot, keep := h, root, bytes.Clone(whole)
	for _, b := range [][]byte{whole[:1216], whole[:1215], whole[:1217], whole, nil} {
		for _, i := range []int{12, 13, -1, 16} {
			Check(root, i, h, b)
			k.Sign(i, h)
		}
	}
	if h != keepHash || root != keepRoot || !bytes.Equal(whole, keep) {
		t.Error("what was handed in was changed")
	}
}

// Rules: what was answered is in new memory each time, and stays when the rest is changed.
func TestAnswered(t *testing.T) {
	k, h := Make(Seed("answered")), Seed("hash")
	root := k.Root()
	sig, again := signed(t, k, 12, h), signed(t, k, 12, h)
	keep := bytes.Clone(sig)
	clear(again)
	_ = append(again, 1)
	_ = append(again[:1088], make([]byte, 128)...)
	if !bytes.Equal(sig, keep) || !bytes.Equal(signed(t, k, 12, h), keep) || k.Root() != root {
		t.Error("an answer hangs on another one's memory")
	}
	other := signed(t, k, 13, h)
	clear(sig)
	if !bytes.Equal(signed(t, k, 12, h), keep) || k.Root() != root || Make(Seed("answered")).Root() != root {
		t.Error("a key hangs on what it answered")
	}
	expect(t, root, 13, h, other, api.OK, "another number's signature")
	wanted := h
	h[0]++
	expect(t, root, 12, wanted, keep, api.OK, "when the hash that was handed in is changed")
	root[0]++
	if k.Root() == root {
		t.Error("a key hangs on the root that it told")
	}
}
