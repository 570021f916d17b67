package tree

import (
	"math"
	"slices"
	"testing"

	"landmark/api"
)

// P7.2: paths of each height that there is, from its first numbers, its last ones, and others; held against the chapter's words.
func TestClimb(t *testing.T) {
	l := append(someLeaves(8), api.Hash{})
	for height := range 9 {
		path, leaf := l[:height], l[8-height]
		for i := range 1 << height {
			if got, e := Climb(leaf, i, path); e != api.OK || got != textClimb(leaf, i, path) {
				t.Errorf("Climb(%x, %d, %d hashes) = %x, %v", leaf, i, height, got, e)
			}
		}
	}
}

// P7.2: one hash and two, from each number; and none: the leaf is the root.
func TestClimbKnown(t *testing.T) {
	l := someLeaves(3)
	leaf, a, b := l[0], l[1], l[2]
	for _, k := range []struct {
		i    int
		path []api.Hash
		want api.Hash
	}{
		{0, nil, leaf},
		{0, []api.Hash{}, leaf},
		{0, []api.Hash{a}, Node(leaf, a)},
		{1, []api.Hash{a}, Node(a, leaf)},
		{0, []api.Hash{a, b}, Node(Node(leaf, a), b)},
		{1, []api.Hash{a, b}, Node(Node(a, leaf), b)},
		{2, []api.Hash{a, b}, Node(b, Node(leaf, a))},
		{3, []api.Hash{a, b}, Node(b, Node(a, leaf))},
	} {
		if got := climbed(t, leaf, k.i, k.path); got != k.want {
			t.Errorf("Climb(leaf, %d, %x) = %x; want %x", k.i, k.path, got, k.want)
		}
	}
	if got := climbed(t, api.Hash{}, 0, nil); got != (api.Hash{}) {
		t.Errorf("noughts climb no step to %x", got)
	}
}

// P7.2: numbers that a tree of the path's height does not have, and the first and the last one that it has.
func TestClimbWrongNumber(t *testing.T) {
	l := someLeaves(8)
	for height := range 9 {
		path := l[:height]
		last := 1<<height - 1
		for _, i := range []int{-1, -2, -last - 1, last + 1, last + 2, 2*last + 2, 256, 511, 1 << 31, 1 << 32, 1<<32 + 1, math.MinInt, math.MinInt + 1, math.MaxInt} {
			if got, e := Climb(l[0], i, path); e != api.ErrArg || got != (api.Hash{}) {
				t.Errorf("Climb(leaf, %d, %d hashes) = %x, %v", i, height, got, e)
			}
		}
		for _, i := range []int{0, last} {
			if got, e := Climb(l[0], i, path); e != api.OK || got == (api.Hash{}) {
				t.Errorf("Climb(leaf, %d, %d hashes) = %x, %v", i, height, got, e)
			}
		}
	}
	for _, none := range [][]api.Hash{nil, {}, l[:0]} {
		for _, i := range []int{-1, 1} {
			if got, e := Climb(l[0], i, none); e != api.ErrArg || got != (api.Hash{}) {
				t.Errorf("Climb(leaf, %d, no hashes) = %x, %v", i, got, e)
			}
		}
	}
}

// P7.2: more than 8 hashes, whatever the number.
func TestClimbTooHigh(t *testing.T) {
	l := someLeaves(1 << 10)
	for _, n := range []int{9, 10, 16, 31, 32, 62, 63, 64, 65, 255, 256, 257, 1 << 10} {
		for _, i := range []int{-1, 0, 1, 255, 256, 511, math.MinInt, math.MaxInt} {
			if got, e := Climb(l[0], i, l[:n]); e != api.ErrArg || got != (api.Hash{}) {
				t.Errorf("Climb(leaf, %d, %d hashes) = %x, %v", i, n, got, e)
			}
		}
	}
	if got, e := Climb(l[0], 255, l[:8]); e != api.OK || got != textClimb(l[0], 255, l[:8]) {
		t.Errorf("Climb(leaf, 255, 8 hashes) = %x, %v", got, e)
	}
}

// P7.3: another leaf, with the same path, has another root.
func TestAnotherLeaf(t *testing.T) {
	for _, n := range sizes() {
		leaves := someLeaves(n)
		root := rooted(t, leaves)
		for _, i := range []int{0, n / 3, n / 2, n - 1} {
			path := pathed(t, leaves, i)
			seen := map[api.Hash]int{root: 1}
			for bit := range 256 {
				seen[climbed(t, turned(leaves[i], bit), i, path)]++
			}
			if len(seen) != 257 || seen[root] != 1 {
				t.Errorf("of %d leaves, %d: %d roots of 257 leaves with one path", n, i, len(seen))
			}
			for k, other := range leaves {
				if k != i && climbed(t, other, i, path) == root {
					t.Errorf("of %d leaves the leaf %d stands for %d", n, k, i)
				}
			}
		}
	}
}

// P7.3: each hash of a path counts, at each height, and so do their order and the leaf's number.
func TestAnotherPath(t *testing.T) {
	for _, n := range sizes() {
		leaves := someLeaves(n)
		root := rooted(t, leaves)
		for _, i := range []int{0, n / 3, n / 2, n - 1} {
			path := pathed(t, leaves, i)
			for height := range path {
				for _, bit := range []int{0, 7, 100, 248, 255} {
					other := slices.Clone(path)
					other[height] = turned(other[height], bit)
					if got := climbed(t, leaves[i], i, other); got == root || got != textClimb(leaves[i], i, other) {
						t.Errorf("of %d leaves, %d: a path with another hash at the height %d leads to %x", n, i, height, got)
					}
				}
				other := slices.Clone(path)
				other[0], other[height] = other[height], other[0]
				if height > 0 && climbed(t, leaves[i], i, other) == root {
					t.Errorf("of %d leaves, %d: the hashes 0 and %d in each other's place", n, i, height)
				}
			}
			for k := range n {
				if k != i && climbed(t, leaves[i], k, path) == root {
					t.Errorf("of %d leaves the path of %d is taken for that of %d", n, i, k)
				}
			}
		}
	}
}

// P7.3: a path that is cut, or goes on, leads to another root.
func TestShorterAndLonger(t *testing.T) {
	leaves := someLeaves(16)
	root := rooted(t, leaves)
	path := pathed(t, leaves, 5)
	for n := range path {
		if got, e := Climb(leaves[5], 5%(1<<n), path[:n]); e != api.OK || got == root {
			t.Errorf("%d hashes of a path: %x, %v", n, got, e)
		}
	}
	if got := climbed(t, leaves[5], 5, append(slices.Clone(path), api.Hash{})); got != Node(root, api.Hash{}) {
		t.Errorf("a path that goes on: %x", got)
	}
}
