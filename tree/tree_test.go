package tree

import (
	"math"
	"slices"
	"testing"

	"landmark/api"
)

// P7.1: how many leaves there may be, and how many not.
func TestMay(t *testing.T) {
	for n := -600; n <= 1100; n++ {
		if May(n) != slices.Contains(sizes(), n) {
			t.Errorf("May(%d) = %v", n, May(n))
		}
	}
	for shift := range 54 {
		if n := 512 << shift; May(n) || May(-n) || May(n+1) || May(n+256) {
			t.Error("around", n)
		}
	}
	for _, n := range []int{math.MinInt, math.MinInt + 1, math.MinInt + 256, math.MaxInt, math.MaxInt - 255} {
		if May(n) {
			t.Errorf("May(%d)", n)
		}
	}
}

// P7.1: nodes of noughts, of ones, of any; in both orders.
func TestNode(t *testing.T) {
	l := append(someLeaves(8), api.Hash{}, api.Hash{31: 1}, api.Hash(slices.Repeat([]byte{255}, 32)))
	for _, left := range l {
		for _, right := range l {
			if got := Node(left, right); got != textNode(left, right) {
				t.Errorf("Node(%x, %x) = %x", left, right, got)
			}
			if left != right && Node(left, right) == Node(right, left) {
				t.Errorf("%x and %x: both orders have one node", left, right)
			}
		}
	}
}

// P7.1: each bit of both hashes counts for their node.
func TestNodeHangsOnAll(t *testing.T) {
	l := someLeaves(2)
	seen := map[api.Hash]int{Node(l[0], l[1]): 1}
	for bit := range 256 {
		seen[Node(turned(l[0], bit), l[1])]++
		seen[Node(l[0], turned(l[1], bit))]++
	}
	if len(seen) != 513 {
		t.Error(len(seen))
	}
}

// P7.1: the chapter's example, a tree of one leaf, one of two, one of eight.
func TestRootKnown(t *testing.T) {
	l := someLeaves(8)
	a, b, c, d := l[0], l[1], l[2], l[3]
	four := Node(Node(a, b), Node(c, d))
	behind := Node(Node(l[4], l[5]), Node(l[6], l[7]))
	for _, k := range []struct {
		leaves []api.Hash
		want   api.Hash
	}{
		{l[:1], a},
		{[]api.Hash{{}}, api.Hash{}},
		{l[:2], Node(a, b)},
		{l[1:3], Node(b, c)},
		{[]api.Hash{a, b, c, d}, four},
		{[]api.Hash{b, a, c, d}, Node(Node(b, a), Node(c, d))},
		{[]api.Hash{c, d, a, b}, Node(Node(c, d), Node(a, b))},
		{l, Node(four, behind)},
	} {
		if got := rooted(t, k.leaves); got != k.want {
			t.Errorf("Root(%x) = %x; want %x", k.leaves, got, k.want)
		}
	}
}

// P7.1: roots of so many leaves as there may be: of any, and of such as are all the same.
func TestRoot(t *testing.T) {
	for _, n := range sizes() {
		for _, leaves := range [][]api.Hash{someLeaves(n), make([]api.Hash, n), slices.Repeat(someLeaves(1), n)} {
			root := rooted(t, leaves)
			if root != textRoot(textLevels(leaves)) {
				t.Errorf("of %d leaves the root is %x", n, root)
			}
			if half := n / 2; n > 1 && root != Node(rooted(t, leaves[:half]), rooted(t, leaves[half:])) {
				t.Errorf("of %d leaves the root is not the node of its halves' roots", n)
			}
		}
	}
}

// P7.1: each leaf counts for the root, and so does its place.
func TestRootHangsOnAll(t *testing.T) {
	for _, n := range sizes() {
		leaves := someLeaves(n)
		seen := map[api.Hash]int{rooted(t, leaves): 1}
		want := 1
		for i := range n {
			other := slices.Clone(leaves)
			other[i] = turned(other[i], i)
			seen[rooted(t, other)]++
			want++
			if i > 0 {
				other = slices.Clone(leaves)
				other[i], other[0] = other[0], other[i]
				seen[rooted(t, other)]++
				want++
			}
		}
		if len(seen) != want {
			t.Errorf("of %d leaves: %d roots, not %d", n, len(seen), want)
		}
	}
}

// P7.1: paths of one, of two, of four and of eight leaves, hash by hash.
func TestPathKnown(t *testing.T) {
	l := someLeaves(8)
	node := func(i int) api.Hash { return Node(l[i], l[i+1]) }
	four, behind := Node(node(0), node(2)), Node(node(4), node(6))
	for _, k := range []struct {
		n, i int
		want []api.Hash
	}{
		{1, 0, nil},
		{2, 0, []api.Hash{l[1]}},
		{2, 1, []api.Hash{l[0]}},
		{4, 0, []api.Hash{l[1], node(2)}},
		{4, 1, []api.Hash{l[0], node(2)}},
		{4, 2, []api.Hash{l[3], node(0)}},
		{4, 3, []api.Hash{l[2], node(0)}},
		{8, 0, []api.Hash{l[1], node(2), behind}},
		{8, 2, []api.Hash{l[3], node(0), behind}},
		{8, 5, []api.Hash{l[4], node(6), four}},
		{8, 7, []api.Hash{l[6], node(4), four}},
	} {
		if got := pathed(t, l[:k.n], k.i); !slices.Equal(got, k.want) {
			t.Errorf("Path of %d leaves, %d: %x; want %x", k.n, k.i, got, k.want)
		}
	}
}

// P7.1: the path of each leaf of each tree; P7.3: by it each leaf climbs to the root.
func TestEachPath(t *testing.T) {
	for height, n := range sizes() {
		leaves := someLeaves(n)
		levels := textLevels(leaves)
		root := rooted(t, leaves)
		for i, leaf := range leaves {
			path := pathed(t, leaves, i)
			if len(path) != height || !slices.Equal(path, textPath(levels, i)) {
				t.Errorf("Path of %d leaves, %d: %x", n, i, path)
			}
			if got := climbed(t, leaf, i, path); got != root {
				t.Errorf("of %d leaves the leaf %d climbs to %x; not %x", n, i, got, root)
			}
		}
	}
}

// P7.1: other numbers of leaves, whatever leaf is asked for, and however much memory is behind them.
func TestWrongLeaves(t *testing.T) {
	all := someLeaves(1025)
	wrong := [][]api.Hash{nil, {}, all[:0], all[5:5:5], all[:3], all[:3:3], all[:1023], all[:1024], all, make([]api.Hash, 1<<16)}
	for n := range 600 {
		if !slices.Contains(sizes(), n) {
			wrong = append(wrong, all[:n])
		}
	}
	for _, leaves := range wrong {
		n := len(leaves)
		if root, e := Root(leaves); e != api.ErrArg || root != (api.Hash{}) {
			t.Errorf("Root of %d leaves = %x, %v", n, root, e)
		}
		for _, i := range []int{-1, 0, 1, n - 1, n, math.MinInt, math.MaxInt} {
			if path, e := Path(leaves, i); e != api.ErrArg || len(path) != 0 {
				t.Errorf("Path of %d leaves, %d = %x, %v", n, i, path, e)
			}
		}
	}
}

// P7.1: leaves that there are not, and the first and the last one that there are.
func TestWrongLeaf(t *testing.T) {
	all := someLeaves(256)
	for _, n := range sizes() {
		leaves := all[:n]
		for _, i := range []int{-1, -n, -n - 1, n, n + 1, 2 * n, 256, 257, 1 << 32, math.MinInt, math.MinInt + 1, math.MaxInt} {
			if path, e := Path(leaves, i); e != api.ErrArg || len(path) != 0 {
				t.Errorf("Path of %d leaves, %d = %x, %v", n, i, path, e)
			}
		}
		for _, i := range []int{0, n - 1} {
			if path, e := Path(leaves, i); e != api.OK || 1<<len(path) != n {
				t.Errorf("Path of %d leaves, %d = %x, %v", n, i, path, e)
			}
		}
	}
}

// P7.1: what two leaves that are the same are asked for hangs on their numbers.
func TestSameLeaves(t *testing.T) {
	l := someLeaves(8)
	l[5] = l[2]
	root := rooted(t, l)
	a, b := pathed(t, l, 2), pathed(t, l, 5)
	if slices.Equal(a, b) || climbed(t, l[2], 2, a) != root || climbed(t, l[2], 5, b) != root {
		t.Errorf("the paths of two leaves that are the same: %x and %x", a, b)
	}
	if climbed(t, l[2], 5, a) == root || climbed(t, l[2], 2, b) == root {
		t.Error("a path leads from another number to the root, too")
	}
	// Beside each other the two halves are one: each one's path is the other one's.
	l[3] = l[2]
	if a, b = pathed(t, l, 2), pathed(t, l, 3); !slices.Equal(a, b) || a[0] != l[2] {
		t.Errorf("the paths of two like leaves beside each other: %x and %x", a, b)
	}
	if root = rooted(t, l); climbed(t, l[2], 2, a) != root || climbed(t, l[2], 3, a) != root {
		t.Error("one of two like leaves beside each other does not climb to the root")
	}
}

// Rules: what is handed in is as it was, and so is what stands behind it in memory.
func TestHandedIn(t *testing.T) {
	whole := someLeaves(64)
	keep := slices.Clone(whole)
	for _, n := range []int{1, 2, 3, 16, 32} {
		leaves := whole[8 : 8+n]
		Root(leaves)
		for i := -1; i <= n; i++ {
			Path(leaves, i)
		}
	}
	for n := range 11 {
		for _, i := range []int{-1, 0, 1, 255} {
			Climb(whole[7], i, whole[20:20+n])
		}
	}
	Node(whole[0], whole[1])
	if !slices.Equal(whole, keep) {
		t.Error("what was handed in was changed")
	}
}

// Rules: what was answered is in new memory each time, and stays when what was handed in is changed.
func TestAnswered(t *testing.T) {
	for _, n := range sizes() {
		leaves := someLeaves(n)
		last := n - 1
		path, again := pathed(t, leaves, last), pathed(t, leaves, last)
		root := rooted(t, leaves)
		keep := slices.Clone(path)
		clear(again)
		_ = append(again, api.Hash{1})
		if !slices.Equal(path, keep) || !slices.Equal(pathed(t, leaves, last), keep) {
			t.Errorf("of %d leaves: a path hangs on another one's memory", n)
		}
		if !slices.Equal(leaves, someLeaves(n)) || rooted(t, leaves) != root {
			t.Errorf("of %d leaves: a path has the leaves' memory", n)
		}
		got := climbed(t, leaves[last], last, path)
		clear(leaves)
		if !slices.Equal(path, keep) || got != root {
			t.Errorf("of %d leaves: a path hangs on what was handed in", n)
		}
		clear(path)
		if got != root {
			t.Errorf("of %d leaves: what was climbed to hangs on the path", n)
		}
	}
}
