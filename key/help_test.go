package key

import (
	"bytes"
	"crypto/sha256"
	"math"
	"math/rand/v2"
	"slices"
	"testing"

	"landmark/api"
)

// What the chapter says, and chapters 6 and 7 of it, written anew, with the library's SHA-256: the tests hold the package against it.

func textSum(l ...[]byte) api.Hash { return sha256.Sum256(slices.Concat(l...)) }

// textChain is a node behind the steps from one on, up to ahead of another one.
func textChain(x []byte, i, from, to int) []byte {
	for k := from; k < to; k++ {
		h := textSum([]byte{'W', byte(i), byte(k)}, x)
		x = h[:16]
	}
	return x
}

func textDigits(h api.Hash) []int {
	var l []int
	sum := 0
	for _, x := range h[:16] {
		for _, d := range []byte{x / 64, x / 16 % 4, x / 4 % 4, x % 4} {
			l = append(l, int(d))
			sum += 3 - int(d)
		}
	}
	return append(l, sum/64, sum/16%4, sum/4%4, sum%4)
}

// textNode is the node of the secret of a seed and a leaf's number in a chain.
func textNode(seed api.Hash, leaf, i int) []byte {
	h := textSum([]byte{'S'}, seed[:], []byte{byte(leaf), byte(i)})
	return h[:16]
}

func textLeaf(seed api.Hash, leaf int) api.Hash {
	b := []byte{'P'}
	for i := range 68 {
		b = append(b, textChain(textNode(seed, leaf, i), i, 0, 3)...)
	}
	return sha256.Sum256(b)
}

// textLevels has the 16 leaves, what they are paired to, and so on up to the root.
func textLevels(seed api.Hash) [][]api.Hash {
	var level []api.Hash
	for leaf := range 16 {
		level = append(level, textLeaf(seed, leaf))
	}
	levels := [][]api.Hash{level}
	for len(level) > 1 {
		var up []api.Hash
		for pair := range slices.Chunk(level, 2) {
			up = append(up, textSum([]byte{'N'}, pair[0][:], pair[1][:]))
		}
		level = up
		levels = append(levels, level)
	}
	return levels
}

func textRoot(levels [][]api.Hash) api.Hash { return levels[4][0] }

// textPath is a leaf's path as bytes.
func textPath(levels [][]api.Hash, leaf int) []byte {
	var b []byte
	for height := range 4 {
		beside := levels[height][leaf>>height^1]
		b = append(b, beside[:]...)
	}
	return b
}

func textSign(seed api.Hash, levels [][]api.Hash, leaf int, h api.Hash) []byte {
	var b []byte
	for i, d := range textDigits(h) {
		b = append(b, textChain(textNode(seed, leaf, i), i, 0, d)...)
	}
	return append(b, textPath(levels, leaf)...)
}

// textReached is the root to which 1216 bytes lead, by a number, of a hash.
func textReached(leaf int, h api.Hash, sig []byte) api.Hash {
	b := []byte{'P'}
	for i, d := range textDigits(h) {
		b = append(b, textChain(sig[16*i:16*i+16], i, d, 3)...)
	}
	reached := textSum(b)
	for height := range 4 {
		beside := sig[1088+32*height : 1088+32*height+32]
		if leaf>>height%2 == 0 {
			reached = textSum([]byte{'N'}, reached[:], beside)
		} else {
			reached = textSum([]byte{'N'}, beside, reached[:])
		}
	}
	return reached
}

func someBytes(source *rand.Rand, n int) []byte {
	b := make([]byte, n)
	for i := range b {
		b[i] = byte(source.Uint32())
	}
	return b
}

func someHash(source *rand.Rand) api.Hash { return api.Hash(someBytes(source, 32)) }

// all is a hash of one byte.
func all(x byte) api.Hash { return api.Hash(bytes.Repeat([]byte{x}, 32)) }

// seeds are those at the edges, and others.
func seeds() []api.Hash {
	source := rand.New(rand.NewPCG(8, 1))
	return []api.Hash{{}, {1}, {31: 1}, all(255), Seed(""), Seed("a"), someHash(source), someHash(source)}
}

// hashes are those at the edges, and others.
func hashes() []api.Hash {
	source := rand.New(rand.NewPCG(8, 2))
	return []api.Hash{{}, all(255), {0x1b}, {15: 1}, {16: 1}, someHash(source), someHash(source), someHash(source)}
}

// wrongNumbers are such as no key signs by.
func wrongNumbers() []int {
	return []int{-1, -15, -16, -17, 16, 17, 31, 32, 255, 256, 1 << 32, 1<<32 + 3, math.MinInt, math.MinInt + 1, math.MaxInt, math.MaxInt - 15}
}

// none are a nil key, and a zero one.
func none() []*Key { return []*Key{nil, {}, new(Key)} }

// signed is what a key signs by a number that there is.
func signed(t *testing.T, k *Key, i int, h api.Hash) []byte {
	t.Helper()
	sig, e := k.Sign(i, h)
	if e != api.OK {
		t.Fatal(i, e)
	}
	return sig
}

// expect wants a check's answer.
func expect(t *testing.T, root api.Hash, i int, h api.Hash, sig []byte, want api.Errno, why string) {
	t.Helper()
	if e := Check(root, i, h, sig); e != want {
		t.Errorf("%s: Check by %d of %d bytes: %v; want %v", why, i, len(sig), e, want)
	}
}
