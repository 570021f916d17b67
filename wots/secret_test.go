package wots

import (
	"math"
	"math/rand/v2"
	"slices"
	"testing"

	"landmark/api"
)

// P6.1: each step of each chain, of noughts, of ones, of any node.
func TestStep(t *testing.T) {
	source := rand.New(rand.NewPCG(6, 3))
	for _, x := range []api.Node{{}, {15: 1}, api.Node(slices.Repeat([]byte{255}, 16)), api.Node(someBytes(source, 16))} {
		for i := range api.Chains {
			for k := range 3 {
				if y, e := Step(x, i, k); e != api.OK || y != api.Node(textStep(x[:], i, k)) {
					t.Errorf("Step(%x, %d, %d) = %x, %v", x, i, k, y, e)
				}
			}
		}
	}
}

// P6.1: no two steps of one node lead to one, and no bit of it is left out.
func TestStepsAreUnlike(t *testing.T) {
	seen := map[api.Node]int{}
	for i := range api.Chains {
		for k := range 3 {
			y, _ := Step(api.Node{}, i, k)
			seen[y]++
		}
	}
	for i := range 128 {
		var x api.Node
		x[i/8] = 1 << (i % 8)
		y, _ := Step(x, 0, 0)
		seen[y]++
	}
	if len(seen) != 3*api.Chains+128 {
		t.Error(len(seen))
	}
}

// P6.1: chains and steps that there are not, alone and both.
func TestStepWrong(t *testing.T) {
	x := api.Node{1, 2, 3}
	wrongChains := []int{-1, 68, 69, 255, 256, 256 + 5, -256, 1 << 32, math.MinInt, math.MaxInt}
	wrongSteps := []int{-1, 3, 4, 255, 256, 256 + 1, -256, 1 << 32, math.MinInt, math.MaxInt}
	wrong := func(i, k int) {
		if y, e := Step(x, i, k); e != api.ErrArg || y != (api.Node{}) {
			t.Errorf("Step(x, %d, %d) = %x, %v", i, k, y, e)
		}
	}
	for _, i := range wrongChains {
		for _, k := range []int{0, 1, 2} {
			wrong(i, k)
		}
		for _, k := range wrongSteps {
			wrong(i, k)
		}
	}
	for _, k := range wrongSteps {
		for _, i := range []int{0, 1, 34, 67} {
			wrong(i, k)
		}
	}
	for _, i := range []int{0, 67} {
		for _, k := range []int{0, 2} {
			if y, e := Step(x, i, k); e != api.OK || y == (api.Node{}) {
				t.Errorf("Step(x, %d, %d) = %x, %v", i, k, y, e)
			}
		}
	}
}

// P6.1: the chapter's example, and the greatest and the least sum.
func TestDigitsKnown(t *testing.T) {
	example := append([]int{0, 1, 2, 3}, make([]int, 60)...)
	for _, c := range []struct {
		h    api.Hash
		want []int
	}{
		{api.Hash{0x1b}, append(example, 2, 3, 2, 2)},
		{api.Hash{}, append(make([]int, 64), 3, 0, 0, 0)},
		{all(255), append(slices.Repeat([]int{3}, 64), 0, 0, 0, 0)},
		{all(0x1b), append(slices.Repeat([]int{0, 1, 2, 3}, 16), 1, 2, 0, 0)},
		{all(0xe4), append(slices.Repeat([]int{3, 2, 1, 0}, 16), 1, 2, 0, 0)},
		{all(0x55), append(slices.Repeat([]int{1}, 64), 2, 0, 0, 0)},
		{all(0xaa), append(slices.Repeat([]int{2}, 64), 1, 0, 0, 0)},
	} {
		if d := Digits(c.h); !slices.Equal(d, c.want) {
			t.Errorf("Digits(%x) = %v; want %v", c.h, d, c.want)
		}
	}
}

// P6.1: digits of hashes at the edges, and of each byte at each of the first 16 places.
func TestDigits(t *testing.T) {
	l := edgeHashes()
	for i := range 16 {
		for x := range 256 {
			h := all(0x6c)
			h[i] = byte(x)
			l = append(l, h)
		}
	}
	for _, h := range l {
		d := Digits(h)
		if !slices.Equal(d, textDigits(h)) || len(d) != api.Chains {
			t.Errorf("Digits(%x) = %v", h, d)
		}
		if slices.Min(d) < 0 || slices.Max(d) > 3 {
			t.Errorf("of %x a digit that is none: %v", h, d)
		}
	}
}

// P6.1: digits look at the first 16 bytes, at each bit of them, and at these only.
func TestDigitsLookAtTheFirst(t *testing.T) {
	source := rand.New(rand.NewPCG(6, 4))
	for range 20 {
		h := someHash(source)
		for i := range 256 {
			other := h
			other[i/8] ^= 1 << (i % 8)
			if slices.Equal(Digits(h), Digits(other)) != (i >= 128) {
				t.Errorf("%x: bit %d", h, i)
			}
		}
		behind := h
		copy(behind[16:], someBytes(source, 16))
		if !slices.Equal(Digits(h), Digits(behind)) {
			t.Errorf("%x and %x: unlike digits", h, behind)
		}
	}
}

// P6.1: secrets of the first leaves, the last ones, and others, node by node.
func TestMake(t *testing.T) {
	for _, seed := range edgeHashes() {
		for _, leaf := range []int{0, 1, 2, 15, 16, 127, 128, 254, 255} {
			s, e := Make(seed, leaf)
			want := textSecret(seed, leaf)
			if e != api.OK {
				t.Error(leaf, e)
			}
			for i := range s {
				if s[i] != want[i] {
					t.Errorf("Make(%x, %d): the node %d is %x", seed, leaf, i, s[i])
				}
			}
		}
	}
}

// P6.1: all nodes of all leaves of a seed are unlike, and each bit of the seed counts.
func TestSecretsAreUnlike(t *testing.T) {
	seen := map[api.Node]int{}
	for leaf := range 256 {
		for _, x := range made(t, all(7), leaf) {
			seen[x]++
		}
	}
	if len(seen) != 256*api.Chains {
		t.Error(len(seen))
	}
	s := made(t, all(7), 3)
	for i := range 256 {
		seed := all(7)
		seed[i/8] ^= 1 << (i % 8)
		if o := made(t, seed, 3); o[0] == s[0] || o[67] == s[67] {
			t.Error("the seed's bit", i)
		}
	}
}

// P6.1: leaves that there are not.
func TestMakeWrong(t *testing.T) {
	for _, leaf := range []int{-1, -256, 256, 257, 511, 512, 1 << 32, math.MinInt, math.MaxInt} {
		if s, e := Make(all(1), leaf); e != api.ErrArg || s != (api.Secret{}) {
			t.Errorf("Make(seed, %d) = %x, %v", leaf, s, e)
		}
	}
	for _, leaf := range []int{0, 255} {
		if s, e := Make(all(1), leaf); e != api.OK || s == (api.Secret{}) {
			t.Errorf("Make(seed, %d) = %x, %v", leaf, s, e)
		}
	}
}

// P6.1: publics, of the zero secret, too; and the ends that they are of, by Step.
func TestPublic(t *testing.T) {
	for _, s := range secrets(t) {
		public := Public(s)
		if public != textPublic(s) {
			t.Errorf("Public(%x) = %x", s, public)
		}
		var ends api.Secret
		for i, x := range s {
			for k := range 3 {
				x, _ = Step(x, i, k)
			}
			ends[i] = x
			if x != api.Node(textChain(s[i][:], i, 0, 3)) {
				t.Errorf("%x: the end %d is %x", s, i, x)
			}
		}
		// Of ones the first 64 nodes of a signature are ends, and nothing is done to the last four.
		var sig []byte
		for _, x := range slices.Concat(ends[:64], s[64:]) {
			sig = append(sig, x[:]...)
		}
		if !slices.Equal(Sign(s, all(255)), sig) || recovered(t, sig, all(255)) != public {
			t.Errorf("%x: what is signed of ones is not its ends, and its last four nodes", s)
		}
	}
}

// P6.1: each bit of each node of a secret counts for its public, and so does their order.
func TestPublicHangsOnAll(t *testing.T) {
	s := made(t, all(3), 9)
	public := Public(s)
	if Public(s) != public {
		t.Error("two publics")
	}
	for i := range s {
		for _, bit := range []int{0, 7, 64, 127} {
			other := s
			other[i][bit/8] ^= 1 << (bit % 8)
			if Public(other) == public {
				t.Error("the node", i, "bit", bit)
			}
		}
	}
	other := s
	other[0], other[1] = s[1], s[0]
	if Public(other) == public {
		t.Error("two orders have one public")
	}
}
