package key

import (
	"bytes"
	"math"
	"strings"
	"sync"
	"testing"

	"landmark/api"
	"landmark/tree"
	"landmark/wots"
)

// P8.1: the hash of a text, of the empty one, of one in many blocks, of bytes that are no signs.
func TestSeed(t *testing.T) {
	for _, text := range []string{"", "a", "b", "ab", "text", "\x00", "\xff\xfe", "äöü", strings.Repeat("long ", 1000)} {
		if got := Seed(text); got != textSum([]byte(text)) {
			t.Errorf("Seed(%q) = %x", text, got)
		}
	}
	if got := Seed(""); !bytes.Equal(got[:4], []byte{227, 176, 196, 66}) {
		t.Errorf("Seed of the empty text = %x", got)
	}
	if got := Seed("abc"); !bytes.Equal(got[:4], []byte{186, 120, 22, 191}) {
		t.Errorf("Seed(abc) = %x", got)
	}
}

// P8.1: the epoch modulo 16, at each turn, and at the greatest ones.
func TestNumber(t *testing.T) {
	for _, c := range []struct {
		epoch uint64
		want  int
	}{
		{0, 0}, {1, 1}, {15, 15}, {16, 0}, {17, 1}, {31, 15}, {32, 0}, {35, 3}, {255, 15}, {256, 0},
		{1<<32 - 1, 15}, {1 << 32, 0}, {1<<32 + 5, 5},
		{api.MaxEpoch - 1, 15}, {api.MaxEpoch, 0}, {api.MaxEpoch + 1, 1},
		{1<<63 - 1, 15}, {1 << 63, 0}, {1<<63 + 9, 9}, {math.MaxUint64 - 1, 14}, {math.MaxUint64, 15},
	} {
		if got := Number(c.epoch); got != c.want {
			t.Errorf("Number(%d) = %d; want %d", c.epoch, got, c.want)
		}
	}
	for epoch := range uint64(200) {
		if got := Number(epoch); got != int(epoch)-int(epoch)/16*16 {
			t.Errorf("Number(%d) = %d", epoch, got)
		}
	}
}

// P8.1: roots held against the chapter's words, leaf by leaf; of the seed of noughts, too.
func TestRoot(t *testing.T) {
	seen := map[api.Hash]int{}
	for _, seed := range seeds() {
		k := Make(seed)
		levels := textLevels(seed)
		if got := k.Root(); got != textRoot(levels) || got == (api.Hash{}) {
			t.Errorf("of the seed %x the root is %x", seed, got)
		}
		for i, leaf := range levels[0] {
			sig := signed(t, k, i, all(byte(i)))
			if got, e := wots.Recover(sig[:api.SigSize], all(byte(i))); e != api.OK || got != leaf {
				t.Errorf("of the seed %x the leaf %d is %x, %v; not %x", seed, i, got, e, leaf)
			}
		}
		seen[k.Root()]++
	}
	if len(seen) != len(seeds()) {
		t.Error(len(seen), "roots of", len(seeds()), "seeds")
	}
}

// P8.1: the root is that of the 16 publics, by the layers below.
func TestRootOfPublics(t *testing.T) {
	seed := Seed("publics")
	var leaves []api.Hash
	for i := range 16 {
		s, e := wots.Make(seed, i)
		if e != api.OK {
			t.Fatal(i, e)
		}
		leaves = append(leaves, wots.Public(s))
	}
	root, e := tree.Root(leaves)
	if e != api.OK || Make(seed).Root() != root {
		t.Errorf("%x, %v; not %x", root, e, Make(seed).Root())
	}
}

// P8.1: each byte of a seed counts.
func TestRootHangsOnTheSeed(t *testing.T) {
	seen := map[api.Hash]int{Make(all(7)).Root(): 1}
	for i := range 32 {
		seed := all(7)
		seed[i] ^= 1 << (i % 8)
		seen[Make(seed).Root()]++
	}
	if len(seen) != 33 {
		t.Error(len(seen))
	}
}

// P8.1: of a nil key, and of a zero one, noughts; asked twice, and behind a refused Sign.
func TestNoKey(t *testing.T) {
	for _, k := range none() {
		for range 2 {
			if got := k.Root(); got != (api.Hash{}) {
				t.Errorf("of no key the root is %x", got)
			}
			if sig, e := k.Sign(3, all(1)); e != api.ErrNil || len(sig) != 0 {
				t.Errorf("no key signs %d bytes, %v", len(sig), e)
			}
		}
	}
	// A seed of noughts is one as any other.
	k := Make(api.Hash{})
	expect(t, k.Root(), 0, api.Hash{}, signed(t, k, 0, api.Hash{}), api.OK, "the seed of noughts")
}

// P8.1, P8.2: a key tells the same, whatever it was asked before, and in whatever order.
func TestAskedInAnyOrder(t *testing.T) {
	seed, h := Seed("order"), Seed("hash")
	levels := textLevels(seed)
	root := func(k *Key) {
		if got := k.Root(); got != textRoot(levels) {
			t.Errorf("the root is %x", got)
		}
	}
	sign := func(i int) func(k *Key) {
		return func(k *Key) {
			if !bytes.Equal(signed(t, k, i, h), textSign(seed, levels, i, h)) {
				t.Errorf("by %d it signs something else", i)
			}
		}
	}
	refused := func(k *Key) {
		for _, i := range []int{-1, 16} {
			if sig, e := k.Sign(i, h); e != api.ErrArg || len(sig) != 0 {
				t.Errorf("by %d it signs %d bytes, %v", i, len(sig), e)
			}
		}
	}
	for n, order := range [][]func(k *Key){
		{root, root, root},
		{root, sign(4), root, sign(4), sign(4)},
		{sign(4), root, sign(4), root},
		{sign(15), sign(0), sign(15), root, sign(0)},
		{refused, sign(9), refused, root, refused, sign(9)},
		{refused, root, refused, sign(2)},
	} {
		t.Log("order", n)
		k := Make(seed)
		for _, ask := range order {
			ask(k)
		}
	}
}

// Ways: the leaves are reckoned when they are first asked for, by a root or by a signature, and not again.
func TestReckonedOnce(t *testing.T) {
	for _, isRoot := range []bool{true, false} {
		k := Make(Seed("once"))
		k.Sign(-1, all(1))
		k.Sign(16, all(1))
		if k.made.all != nil {
			t.Error("leaves were reckoned that nobody asked for")
		}
		if isRoot {
			k.Root()
		} else {
			signed(t, k, 3, all(1))
		}
		first := k.made.all
		k.Root()
		signed(t, k, 4, all(1))
		if len(first) != 16 || &first[0] != &k.made.all[0] {
			t.Error("leaves were reckoned twice")
		}
	}
}

// P8.1, P8.2: many that ask one key at once, which was not asked before, are told the same.
func TestAskedAtOnce(t *testing.T) {
	seed, h := Seed("many"), Seed("hash")
	levels := textLevels(seed)
	k := Make(seed)
	var roots [16]api.Hash
	var sigs [16][]byte
	var group sync.WaitGroup
	for i := range 16 {
		group.Go(func() {
			if i%2 == 0 {
				roots[i] = k.Root()
			}
			sigs[i], _ = k.Sign(i, h)
			roots[i] = k.Root()
		})
	}
	group.Wait()
	for i := range 16 {
		if roots[i] != textRoot(levels) || !bytes.Equal(sigs[i], textSign(seed, levels, i, h)) {
			t.Errorf("who asked by %d was told something else", i)
		}
	}
}

// P8.1: two keys of a seed are the same, and hang on nothing of each other's; a copy of a key is that key.
func TestTwoKeys(t *testing.T) {
	seed, h := Seed("two"), Seed("hash")
	a, b, other := Make(seed), Make(seed), Make(Seed("other"))
	if a == b || a.Root() != b.Root() || a.Root() == other.Root() {
		t.Error("roots of two keys")
	}
	if !bytes.Equal(signed(t, a, 5, h), signed(t, b, 5, h)) || bytes.Equal(signed(t, a, 5, h), signed(t, other, 5, h)) {
		t.Error("signatures of two keys")
	}
	for _, isAsked := range []bool{false, true} {
		k := Make(seed)
		if isAsked {
			k.Root()
		}
		copied := *k
		if copied.Root() != a.Root() || k.Root() != a.Root() || !bytes.Equal(signed(t, &copied, 6, h), signed(t, k, 6, h)) {
			t.Error("a copy of a key is another one")
		}
		*k = Key{}
		if k.Root() != (api.Hash{}) || copied.Root() != a.Root() {
			t.Error("a copy hangs on the key that it was made of")
		}
	}
}

// Rules: a seed that is handed in is not changed, and a key does not hang on it any more.
func TestSeedHandedIn(t *testing.T) {
	seed := Seed("mine")
	k := Make(seed)
	keep := seed
	root := Make(keep).Root()
	seed[0]++
	if k.Root() != root {
		t.Error("a key hangs on the seed that was handed in")
	}
	seed = keep
	Make(seed).Root()
	if seed != keep {
		t.Error("a seed was changed")
	}
}
