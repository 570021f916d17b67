package wots

import (
	"bytes"
	"math/rand/v2"
	"slices"
	"testing"

	"landmark/api"
)

// P6.2: signatures by each secret of each hash, byte by byte, and what is recovered of them.
func TestSignAndRecover(t *testing.T) {
	for _, s := range secrets(t) {
		public := textPublic(s)
		for _, h := range edgeHashes() {
			sig := Sign(s, h)
			if !bytes.Equal(sig, textSign(s, h)) || len(sig) != api.SigSize {
				t.Errorf("Sign(%x, %x) = %x", s, h, sig)
			}
			// P6.3: Recover of Sign is the public.
			if got, e := Recover(sig, h); e != api.OK || got != public || got != Public(s) {
				t.Errorf("Recover(Sign(%x, %x)) = %x, %v", s, h, got, e)
			}
		}
	}
}

// P6.2: in chains of each digit, the first ones and those of the sum, too, there stands what so many steps lead to.
func TestSignEachDigit(t *testing.T) {
	h := api.Hash{0x1b, 0xe4, 0xff}
	s := made(t, api.Hash{1}, 3)
	sig := Sign(s, h)
	met := [4]int{}
	for i, d := range Digits(h) {
		met[d]++
		x := s[i]
		for k := range d {
			x, _ = Step(x, i, k)
		}
		if x != api.Node(sig[16*i:16*i+16]) {
			t.Errorf("the digit %d of the chain %d: %x", d, i, sig[16*i:16*i+16])
		}
	}
	if slices.Min(met[:]) == 0 {
		t.Error("not each digit is met:", met)
	}
	// In each chain, each digit that may be there.
	for x := range 4 {
		h := all(byte(0x55 * x))
		if sig := Sign(s, h); !bytes.Equal(sig, textSign(s, h)) || recovered(t, sig, h) != Public(s) {
			t.Error("digits that are all", x)
		}
	}
}

// P6.2: a hash is signed by its first 16 bytes only.
func TestSignLooksAtTheFirst(t *testing.T) {
	source := rand.New(rand.NewPCG(6, 5))
	s := made(t, all(2), 1)
	h := someHash(source)
	sig := Sign(s, h)
	for i := range 256 {
		other := h
		other[i/8] ^= 1 << (i % 8)
		isLike := i >= 128
		if bytes.Equal(Sign(s, other), sig) != isLike {
			t.Error("Sign: bit", i)
		}
		if (recovered(t, sig, other) == Public(s)) != isLike {
			t.Error("Recover: bit", i)
		}
	}
}

// P6.2: other sizes, however the bytes lie in memory.
func TestRecoverWrongSize(t *testing.T) {
	s := made(t, all(2), 1)
	sig := Sign(s, all(3))
	long := append(append(bytes.Clone(sig), sig...), 1)
	for _, b := range [][]byte{
		nil, {}, long[:1], long[:16], long[:68], long[:1024], long[:1072], long[:1087], long[:1089], long[1:1088],
		long[:1104], long[:1216], long[:2176], long, make([]byte, 1<<20), sig[:1087], append(bytes.Clone(sig), 0),
	} {
		if got, e := Recover(b, all(3)); e != api.ErrBytes || got != (api.Hash{}) {
			t.Errorf("Recover of %d bytes = %x, %v", len(b), got, e)
		}
	}
	if got, e := Recover(long[:1088], all(3)); e != api.OK || got != Public(s) {
		t.Error(got, e)
	}
	if got, e := Recover(long[:1088:1088], all(3)); e != api.OK || got != Public(s) {
		t.Error(got, e)
	}
}

// P6.2: of 1088 bytes that nobody signed there comes what the chapter says: noughts, ones, any.
func TestRecoverAny(t *testing.T) {
	source := rand.New(rand.NewPCG(6, 6))
	for _, sig := range [][]byte{make([]byte, api.SigSize), bytes.Repeat([]byte{255}, api.SigSize), someBytes(source, api.SigSize)} {
		for _, h := range edgeHashes() {
			if got, e := Recover(sig, h); e != api.OK || got != textRecover(sig, h) {
				t.Errorf("Recover(%x, %x) = %x, %v", sig, h, got, e)
			}
		}
	}
	// The zero secret's signature of noughts is noughts, but for the first node of its sum.
	if recovered(t, make([]byte, api.SigSize), api.Hash{}) == Public(api.Secret{}) {
		t.Error("noughts are taken for a signature")
	}
}

// P6.2: of a signature with another byte, in each node, comes another public.
func TestRecoverOtherSignature(t *testing.T) {
	s := made(t, all(5), 200)
	h := api.Hash{0x1b, 0xe4, 0x99}
	sig := Sign(s, h)
	at := []int{0, 1, 15, 543, 544, 545, 559, 1072, 1086, 1087}
	for i := range api.Chains {
		at = append(at, 16*i, 16*i+15)
	}
	for _, i := range at {
		other := bytes.Clone(sig)
		other[i] ^= 1
		if got := recovered(t, other, h); got == Public(s) || got != textRecover(other, h) {
			t.Errorf("another byte %d: %x", i, got)
		}
	}
	swapped := slices.Concat(sig[16:32], sig[:16], sig[32:])
	if recovered(t, swapped, h) == Public(s) {
		t.Error("two nodes in each other's place")
	}
}

// P6.2: of another hash comes another public; and of another secret's signature.
func TestRecoverOther(t *testing.T) {
	s, other := made(t, all(5), 200), made(t, all(5), 201)
	l := edgeHashes()[:16]
	for i, h := range l {
		sig := Sign(s, h)
		for j, g := range l {
			got := recovered(t, sig, g)
			if got != textRecover(sig, g) || (got == Public(s)) != (h == g || [16]byte(h[:]) == [16]byte(g[:])) {
				t.Error("a signature of the hash", i, "taken for that of", j)
			}
		}
		if recovered(t, sig, h) == Public(other) || recovered(t, Sign(other, h), h) != Public(other) {
			t.Error("another secret's", i)
		}
	}
}

// expectBothLess wants that each of two hashes has a digit that is less than the other's.
func expectBothLess(t *testing.T, a, b api.Hash) {
	t.Helper()
	var less, greater bool
	l := Digits(b)
	for i, d := range Digits(a) {
		less = less || d < l[i]
		greater = greater || d > l[i]
	}
	if !less || !greater {
		t.Errorf("%x and %x: %v and %v", a, b, Digits(a), l)
	}
}

// P6.3: of two hashes whose first 16 bytes differ, in one bit, in one byte, in all, each has a digit that is less.
func TestEachHasALessDigit(t *testing.T) {
	source := rand.New(rand.NewPCG(6, 7))
	for _, h := range edgeHashes() {
		for i := range 128 {
			other := h
			other[i/8] ^= 1 << (i % 8)
			expectBothLess(t, h, other)
		}
	}
	for x := range 256 {
		for y := range x {
			expectBothLess(t, api.Hash{byte(x)}, api.Hash{byte(y)})
			expectBothLess(t, all(byte(x)), all(byte(y)))
		}
	}
	for range 2000 {
		expectBothLess(t, someHash(source), someHash(source))
	}
	// One whose first digits are nowhere less, by more and more: the sum is less.
	up := api.Hash{}
	for i := range 64 {
		before := up
		up[i/4] |= 3 << (2 * (i % 4))
		expectBothLess(t, before, up)
		expectBothLess(t, api.Hash{}, up)
	}
}

// P6.3: two that differ behind the first 16 bytes only have one signature, and are each other's.
func TestBehindTheFirst(t *testing.T) {
	s := made(t, all(8), 0)
	a, b := all(0x39), all(0x39)
	b[16]++
	b[31] = 0
	if !slices.Equal(Digits(a), Digits(b)) || !bytes.Equal(Sign(s, a), Sign(s, b)) || recovered(t, Sign(s, a), b) != Public(s) {
		t.Error("what stands behind the first 16 bytes counts")
	}
}

// P6.3: who has a signature alone comes by steps to that of no other hash: where its digit is less, the node lies ahead.
func TestStepsLeadToNoOther(t *testing.T) {
	s := made(t, all(8), 0)
	a := api.Hash{0x1b}
	sig := Sign(s, a)
	for _, b := range []api.Hash{{}, {0x1a}, {0x1f}, {0x5b}, all(255), {0x1b, 1}, {0x1b, 15: 0x80}} {
		forged := bytes.Clone(sig)
		from, to := Digits(a), Digits(b)
		for i := range api.Chains {
			copy(forged[16*i:], textChain(sig[16*i:16*i+16], i, from[i], to[i]))
		}
		if recovered(t, forged, b) == Public(s) {
			t.Errorf("a signature of %x became one of %x", a, b)
		}
	}
}

// Rules: what is handed in is as it was, whatever stands behind it in memory.
func TestHandedIn(t *testing.T) {
	s, h, seed := made(t, all(4), 6), api.Hash{0x1b, 0xe4}, all(4)
	whole := append(Sign(s, h), 1, 2, 3)
	sig := whole[:api.SigSize]
	keepSecret, keepHash, keepWhole := s, h, bytes.Clone(whole)
	Public(s)
	Digits(h)
	Sign(s, h)
	made(t, seed, 9)
	recovered(t, sig, h)
	Recover(whole, h)
	if s != keepSecret || h != keepHash || seed != all(4) || !bytes.Equal(whole, keepWhole) {
		t.Error("what was handed in was changed")
	}
}

// Rules: what was answered is in new memory each time, and hangs on what was handed in alone.
func TestAnswered(t *testing.T) {
	s, h := made(t, all(4), 6), api.Hash{0x1b, 0xe4}
	sig, digits, secret := Sign(s, h), Digits(h), made(t, all(4), 6)
	keepSig, keepDigits := bytes.Clone(sig), slices.Clone(digits)
	public := recovered(t, sig, h)
	clear(sig)
	clear(digits)
	clear(secret[:])
	_ = append(digits[:3], 9)
	if !bytes.Equal(Sign(s, h), keepSig) || !slices.Equal(Digits(h), keepDigits) || made(t, all(4), 6) != s {
		t.Error("an answer hangs on an earlier one")
	}
	if public != Public(s) || recovered(t, keepSig, h) != public {
		t.Error("what was recovered hangs on the signature's memory")
	}
	again, others := Sign(s, h), Digits(h)
	clear(Sign(s, h))
	clear(Digits(h))
	s[0][0]++
	h[0]++
	if !bytes.Equal(again, keepSig) || !slices.Equal(others, keepDigits) {
		t.Error("an answer became another one")
	}
}
