package wots

import (
	"bytes"
	"crypto/sha256"
	"math/rand/v2"
	"testing"

	"landmark/api"
)

// What the chapter says, written anew, with the library's SHA-256: the tests hold the package against it.

func textStep(x []byte, i, k int) []byte {
	h := sha256.Sum256(append([]byte{'W', byte(i), byte(k)}, x...))
	return h[:16]
}

// textChain is a node behind the steps from one on, up to ahead of another one.
func textChain(x []byte, i, from, to int) []byte {
	for k := from; k < to; k++ {
		x = textStep(x, i, k)
	}
	return x
}

func textDigits(h api.Hash) []int {
	var l []int
	sum := 0
	for place := range 128 {
		bit := int(h[place/8]) >> (7 - place%8) & 1
		if place%2 == 0 {
			l = append(l, 2*bit)
		} else {
			l[place/2] += bit
			sum += 3 - l[place/2]
		}
	}
	return append(l, sum/64, sum/16%4, sum/4%4, sum%4)
}

func textSecret(seed api.Hash, leaf int) api.Secret {
	var s api.Secret
	for i := range s {
		b := append([]byte{'S'}, seed[:]...)
		h := sha256.Sum256(append(b, byte(leaf), byte(i)))
		s[i] = api.Node(h[:16])
	}
	return s
}

func textPublic(s api.Secret) api.Hash {
	b := []byte{'P'}
	for i, x := range s {
		b = append(b, textChain(x[:], i, 0, 3)...)
	}
	return sha256.Sum256(b)
}

func textSign(s api.Secret, h api.Hash) []byte {
	var sig []byte
	for i, d := range textDigits(h) {
		sig = append(sig, textChain(s[i][:], i, 0, d)...)
	}
	return sig
}

func textRecover(sig []byte, h api.Hash) api.Hash {
	b := []byte{'P'}
	for i, d := range textDigits(h) {
		b = append(b, textChain(sig[16*i:16*i+16], i, d, 3)...)
	}
	return sha256.Sum256(b)
}

func someBytes(source *rand.Rand, n int) []byte {
	b := make([]byte, n)
	for i := range b {
		b[i] = byte(source.Uint32())
	}
	return b
}

func someHash(source *rand.Rand) api.Hash { return api.Hash(someBytes(source, 32)) }

// all is a hash of one byte.
func all(x byte) api.Hash { return api.Hash(bytes.Repeat([]byte{x}, 32)) }

// edgeHashes are those at the edges, and others.
func edgeHashes() []api.Hash {
	source := rand.New(rand.NewPCG(6, 1))
	l := []api.Hash{{}, all(255), {0x1b}, {0xe4, 0x1b}, all(0x1b), all(0xe4), all(0x55), all(0xaa)}
	for i := range 32 {
		var one api.Hash
		one[i] = byte(1 + 8*i)
		l = append(l, one)
	}
	for range 20 {
		l = append(l, someHash(source))
	}
	return l
}

// made is a secret that there is.
func made(t *testing.T, seed api.Hash, leaf int) api.Secret {
	t.Helper()
	s, e := Make(seed, leaf)
	if e != api.OK {
		t.Fatal(leaf, e)
	}
	return s
}

// secrets are some to sign with: the zero one, those of the first and the last leaf, and of any nodes.
func secrets(t *testing.T) []api.Secret {
	t.Helper()
	source := rand.New(rand.NewPCG(6, 2))
	l := []api.Secret{{}, made(t, api.Hash{}, 0), made(t, all(255), 255), made(t, someHash(source), 7)}
	var other api.Secret
	for i := range other {
		other[i] = api.Node(someBytes(source, 16))
	}
	return append(l, other)
}

// recovered is what comes of 1088 bytes.
func recovered(t *testing.T, sig []byte, h api.Hash) api.Hash {
	t.Helper()
	public, e := Recover(sig, h)
	if e != api.OK {
		t.Fatal(len(sig), e)
	}
	return public
}
