package tree

import (
	"crypto/sha256"
	"math/rand/v2"
	"slices"
	"testing"

	"landmark/api"
)

// What the chapter says, written anew, with the library's SHA-256, and pair by pair from the leaves up: the tests hold the package against it.

func textNode(left, right api.Hash) api.Hash {
	b := []byte{'N'}
	b = append(b, left[:]...)
	return sha256.Sum256(append(b, right[:]...))
}

// textLevels has the leaves, what they are paired to, and so on up to the root.
func textLevels(leaves []api.Hash) [][]api.Hash {
	levels := [][]api.Hash{leaves}
	for len(leaves) > 1 {
		var up []api.Hash
		for pair := range slices.Chunk(leaves, 2) {
			up = append(up, textNode(pair[0], pair[1]))
		}
		levels = append(levels, up)
		leaves = up
	}
	return levels
}

func textRoot(levels [][]api.Hash) api.Hash { return levels[len(levels)-1][0] }

func textPath(levels [][]api.Hash, i int) []api.Hash {
	var path []api.Hash
	for _, level := range levels[:len(levels)-1] {
		path = append(path, level[i^1])
		i /= 2
	}
	return path
}

func textClimb(leaf api.Hash, i int, path []api.Hash) api.Hash {
	for _, beside := range path {
		if i%2 == 0 {
			leaf = textNode(leaf, beside)
		} else {
			leaf = textNode(beside, leaf)
		}
		i /= 2
	}
	return leaf
}

// sizes are how many leaves there may be.
func sizes() []int { return []int{1, 2, 4, 8, 16, 32, 64, 128, 256} }

func someLeaves(n int) []api.Hash {
	source := rand.New(rand.NewPCG(7, uint64(n)))
	leaves := make([]api.Hash, n)
	for i := range leaves {
		for k := range leaves[i] {
			leaves[i][k] = byte(source.Uint32())
		}
	}
	return leaves
}

// turned is a hash with one bit turned.
func turned(h api.Hash, bit int) api.Hash {
	h[bit/8] ^= 1 << (bit % 8)
	return h
}

// rooted is the root of leaves of which there may be so many.
func rooted(t *testing.T, leaves []api.Hash) api.Hash {
	t.Helper()
	root, e := Root(leaves)
	if e != api.OK {
		t.Fatal(len(leaves), e)
	}
	return root
}

// pathed is the path of a leaf that there is.
func pathed(t *testing.T, leaves []api.Hash, i int) []api.Hash {
	t.Helper()
	path, e := Path(leaves, i)
	if e != api.OK {
		t.Fatal(len(leaves), i, e)
	}
	return path
}

// climbed is what comes of a leaf whose number there is at the path's height.
func climbed(t *testing.T, leaf api.Hash, i int, path []api.Hash) api.Hash {
	t.Helper()
	root, e := Climb(leaf, i, path)
	if e != api.OK {
		t.Fatal(i, len(path), e)
	}
	return root
}
