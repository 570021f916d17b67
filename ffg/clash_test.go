package ffg

import (
	"math"
	"math/rand/v2"
	"slices"
	"testing"

	"landmark/api"
	"landmark/chain"
)

// doClash is whether two clash, by the chapter's words: both are known, and neither lies on the other one's path.
func doClash(c *chain.Chain, p, q api.Point) bool {
	toP, isNone := c.Path(p.Name)
	toQ, isNoneEither := c.Path(q.Name)
	if isNone != api.OK || isNoneEither != api.OK || toP[len(toP)-1] != p || toQ[len(toQ)-1] != q {
		return false
	}
	return !slices.Contains(toP, q) && !slices.Contains(toQ, p)
}

// clash is what Clash is to answer: the first pair of all, by places.
func clash(c *chain.Chain, l []api.Point) (api.Point, api.Point, bool) {
	for i, p := range l {
		for _, q := range l[i+1:] {
			if doClash(c, p, q) {
				return p, q, true
			}
		}
	}
	return api.Point{}, api.Point{}, false
}

// holdClash holds Clash against the words, and wants neither the chain nor the list to have changed.
func holdClash(t *testing.T, c *chain.Chain, l ...api.Point) bool {
	t.Helper()
	a, b, want := clash(c, l)
	given, size := slices.Clone(l), c.Len()
	for range 2 {
		if p, q, is := Clash(c, l...); p != a || q != b || is != want {
			t.Fatalf("Clash of %v: %v, %v, %v; want %v, %v, %v", l, p, q, is, a, b, want)
		}
	}
	if !slices.Equal(l, given) || c.Len() != size {
		t.Fatal("what was handed in was changed")
	}
	return want
}

// wantClash wants just that pair.
func wantClash(t *testing.T, c *chain.Chain, a, b api.Point, l ...api.Point) {
	t.Helper()
	if p, q, is := Clash(c, l...); p != a || q != b || !is {
		t.Errorf("Clash of %v: %v, %v, %v; want %v, %v", l, p, q, is, a, b)
	}
	holdClash(t, c, l...)
}

// wantPeace wants none that clash.
func wantPeace(t *testing.T, c *chain.Chain, l ...api.Point) {
	t.Helper()
	if p, q, is := Clash(c, l...); p != (api.Point{}) || q != (api.Point{}) || is {
		t.Errorf("Clash of %v: %v, %v, %v", l, p, q, is)
	}
	holdClash(t, c, l...)
}

func newChain(t *testing.T, anchor api.Point) *chain.Chain {
	t.Helper()
	c, e := chain.New(anchor)
	if e != api.OK {
		t.Fatal(e)
	}
	return c
}

// put adds a header without operations under a parent. Two of one parent and of one epoch would be one: such have an operation.
func put(t *testing.T, c *chain.Chain, parent api.Point, epoch uint64, ops ...api.HeaderOp) api.Point {
	t.Helper()
	p, e := c.Add(api.Header{Parent: parent.Name, Epoch: epoch, Ops: ops})
	if e != api.OK {
		t.Fatal(e)
	}
	return p
}

// forked is a chain of two branches behind a line, of which the second one has two of its own.
//
//	5 - 6 - 7 - 8 - 9
//	     \- x7 - x9 - x10
//	           \- y9
type forked struct {
	c                        *chain.Chain
	p5, p6, p7, p8, p9       api.Point
	x7, x9, x10, y9, strange api.Point
}

func newForked(t *testing.T) forked {
	t.Helper()
	exit := api.HeaderOp{Kind: api.OpExit, Validator: 1}
	f := forked{c: newChain(t, at(5)), p5: at(5), strange: at(8)}
	f.p6 = put(t, f.c, f.p5, 6)
	f.p7 = put(t, f.c, f.p6, 7)
	f.p8 = put(t, f.c, f.p7, 8)
	f.p9 = put(t, f.c, f.p8, 9)
	f.x7 = put(t, f.c, f.p6, 7, exit)
	f.x9 = put(t, f.c, f.x7, 9)
	f.x10 = put(t, f.c, f.x9, 10)
	f.y9 = put(t, f.c, f.x7, 9, exit)
	return f
}

func (f forked) all() []api.Point {
	return []api.Point{f.p5, f.p6, f.p7, f.p8, f.p9, f.x7, f.x9, f.x10, f.y9, f.strange}
}

// P13.3: Clash of a nil chain and of a zero one, which know nothing.
func TestClashOfNothing(t *testing.T) {
	f := newForked(t)
	var none *chain.Chain
	for _, c := range []*chain.Chain{none, {}} {
		for _, l := range [][]api.Point{nil, {}, {{}}, {{}, {}}, {f.p7, f.x7}, f.all()} {
			if p, q, is := Clash(c, l...); p != (api.Point{}) || q != (api.Point{}) || is {
				t.Error(p, q, is)
			}
		}
	}
}

// P13.3: Clash of no point, of one, of the same one twice, and oftener.
func TestClashOfOne(t *testing.T) {
	f := newForked(t)
	wantPeace(t, f.c)
	wantPeace(t, f.c, []api.Point{}...)
	for _, p := range f.all() {
		wantPeace(t, f.c, p)
		wantPeace(t, f.c, p, p)
		wantPeace(t, f.c, p, p, p, p, p)
	}
	wantPeace(t, newChain(t, at(5)), at(5), at(5))
	wantPeace(t, newChain(t, api.Point{}), api.Point{}, api.Point{})
}

// P13.3: two on one path, in either order, and two on paths that part.
func TestClashOfTwo(t *testing.T) {
	f := newForked(t)
	line, other := []api.Point{f.p5, f.p6, f.p7, f.p8, f.p9}, []api.Point{f.p5, f.p6, f.x7, f.x9, f.x10}
	for _, path := range [][]api.Point{line, other} {
		for _, p := range path {
			for _, q := range path {
				wantPeace(t, f.c, p, q)
			}
		}
		wantPeace(t, f.c, path...)
		slices.Reverse(path)
		wantPeace(t, f.c, path...)
	}
	for _, p := range []api.Point{f.p7, f.p8, f.p9} {
		for _, q := range []api.Point{f.x7, f.x9, f.x10, f.y9} {
			wantClash(t, f.c, p, q, p, q)
			wantClash(t, f.c, q, p, q, p)
		}
	}
	wantClash(t, f.c, f.x9, f.y9, f.x9, f.y9)
	wantClash(t, f.c, f.x10, f.y9, f.x10, f.y9)
	wantPeace(t, f.c, f.x7, f.y9)
}

// P13.3: points that are not known clash with none, wherever they stand: names that are none's, names at other epochs, epochs that may not be.
func TestClashUnknown(t *testing.T) {
	f := newForked(t)
	wrong := []api.Point{f.strange, {}, {Epoch: 7}, {Name: f.p7.Name}, {Epoch: 8, Name: f.p7.Name}, {Epoch: 6, Name: f.p7.Name}, {Epoch: 9, Name: f.x10.Name}, {Epoch: math.MaxUint64, Name: f.x7.Name}, {Epoch: f.x7.Epoch | 1<<62, Name: f.x7.Name}, named(5, 2)}
	for _, p := range wrong {
		for _, q := range append(wrong, f.all()...) {
			wantPeace(t, f.c, p, q)
			wantPeace(t, f.c, q, p)
		}
		wantClash(t, f.c, f.p7, f.x9, p, f.p7, p, f.x9, p)
		wantClash(t, f.c, f.x9, f.p7, f.p6, p, p, f.x9, f.p7)
		wantPeace(t, f.c, p, f.p7, p, f.p9, p)
	}
	wantPeace(t, f.c, wrong...)
}

// P13.3: of several pairs that clash the first by places: the first one's place first, then the other one's.
func TestClashFirst(t *testing.T) {
	f := newForked(t)
	// Here x9 and y9 are found to clash ahead of others by their places, and 7 clashes with the last one alone.
	wantClash(t, f.c, f.x9, f.y9, f.p5, f.x9, f.y9, f.p7)
	wantClash(t, f.c, f.x7, f.p9, f.x7, f.x9, f.y9, f.p9, f.p8)
	wantClash(t, f.c, f.x7, f.p8, f.p6, f.x7, f.x9, f.y9, f.p5, f.p8, f.p9)
	wantClash(t, f.c, f.p7, f.x9, f.p7, f.p9, f.p8, f.p7, f.x9, f.x7)
	wantClash(t, f.c, f.p9, f.y9, f.p9, f.p8, f.p7, f.p6, f.p5, f.y9, f.x7, f.x10)
	wantClash(t, f.c, f.x10, f.y9, f.x10, f.x10, f.x9, f.y9, f.x7, f.p7)
	wantClash(t, f.c, f.x9, f.y9, f.x7, f.x9, f.y9, f.y9)
	wantClash(t, f.c, f.x9, f.y9, f.p6, f.x7, f.x9, f.p5, f.p6, f.y9)
}

// P13.3: each list of up to three points of all, and each order of five.
func TestClashOfFew(t *testing.T) {
	f := newForked(t)
	all := f.all()
	for _, p := range all {
		for _, q := range all {
			holdClash(t, f.c, p, q)
			for _, r := range all {
				holdClash(t, f.c, p, q, r)
			}
		}
	}
	inAllOrders([]api.Point{f.p6, f.p8, f.x7, f.x9, f.y9}, func(l []api.Point) { holdClash(t, f.c, l...) })
	inAllOrders([]api.Point{f.p5, f.p6, f.x7, f.x9, f.y9}, func(l []api.Point) { holdClash(t, f.c, l...) })
	inAllOrders([]api.Point{f.p5, f.p6, f.x7, f.x9, f.x10}, func(l []api.Point) { holdClash(t, f.c, l...) })
}

// tree is a chain by chance: tall ones, and broad ones. What it answers are its points, the anchor's first.
func tree(t *testing.T, source *rand.Rand, size, reach int) (*chain.Chain, []api.Point) {
	t.Helper()
	c := newChain(t, at(5))
	points := []api.Point{at(5)}
	for i := range size {
		parent := points[max(0, len(points)-1-source.IntN(reach))]
		// The number keeps two of one parent and of one epoch apart.
		points = append(points, put(t, c, parent, parent.Epoch+1+source.Uint64N(3), api.HeaderOp{Kind: api.OpDeposit, Stake: uint64(1 + i)}))
	}
	return c, points
}

// P13.3: lists by chance of trees by chance: of few and of many, with points that come twice, and with such as are not known.
func TestClashByChance(t *testing.T) {
	found := map[bool]int{}
	for seed := range uint64(60) {
		source := rand.New(rand.NewPCG(134, seed))
		c, points := tree(t, source, 24, []int{1, 2, 3, 24}[seed%4])
		for range 60 {
			var l []api.Point
			for range source.IntN(9) {
				p := points[source.IntN(len(points))]
				switch source.IntN(12) {
				case 0:
					p.Epoch++
				case 1:
					p.Name[4] ^= 1
				}
				l = append(l, p)
			}
			found[holdClash(t, c, l...)]++
		}
		holdClash(t, c, points...)
		source.Shuffle(len(points), func(i, j int) { points[i], points[j] = points[j], points[i] })
		holdClash(t, c, points...)
	}
	if found[true] < 500 || found[false] < 500 {
		t.Error(found)
	}
}

// P13.3, P0.6: all points of a full chain, on one line, with the two that clash at its end, and each of them many times, are gone over in no more than seconds: all pairs of so many would take hours.
func TestClashOfMany(t *testing.T) {
	c := newChain(t, at(5))
	line := []api.Point{at(5)}
	for len(line) < api.MaxHeaders {
		line = append(line, put(t, c, line[len(line)-1], uint64(5+len(line))))
	}
	last := line[len(line)-1]
	many := slices.Repeat(line, 100)
	if _, _, is := Clash(c, many...); is {
		t.Error("one line")
	}
	beside := put(t, c, line[len(line)-2], last.Epoch, api.HeaderOp{Kind: api.OpExit, Validator: 1})
	if p, q, is := Clash(c, append(many, beside)...); p != last || q != beside || !is {
		t.Error(p, q, is)
	}
	if p, q, is := Clash(c, append([]api.Point{beside}, many...)...); p != beside || q != last || !is {
		t.Error(p, q, is)
	}
}

// P13.3: two targets of one epoch that both are justified, or final: the lists of a gadget, held against the chain.
func TestClashOfGadget(t *testing.T) {
	f := newForked(t)
	o := newPair(t, f.p5)
	o.tell(link(f.p5, f.p6), link(f.p6, f.p7), link(f.p7, f.p8))
	wantPeace(t, f.c, o.g.AllFinal()...)
	wantPeace(t, f.c, o.g.AllJustified()...)
	o.tell(link(f.p6, f.x7))
	wantPeace(t, f.c, o.g.AllFinal()...)
	if !holdClash(t, f.c, o.g.AllJustified()...) {
		t.Error("7 and x7 are justified")
	}
	o.tell(link(f.x9, f.x10), link(f.x7, f.x9))
	if l := o.g.AllFinal(); !holdClash(t, f.c, l...) {
		t.Error("7 and x9 are final:", l)
	}
	wantClash(t, f.c, f.p7, f.x9, o.g.AllFinal()...)
	wantClash(t, f.c, f.x9, f.p7, o.g.Best(), f.p5, f.p7)
}

// P13.3: what was answered is not the caller's list, and the list may be one that has room.
func TestClashHandedIn(t *testing.T) {
	f := newForked(t)
	l := append(make([]api.Point, 0, 20), f.x10, f.p5, f.strange, f.y9, f.p7)
	p, q, is := Clash(f.c, l...)
	if !slices.Equal(l, []api.Point{f.x10, f.p5, f.strange, f.y9, f.p7}) || l[:6][5] != (api.Point{}) {
		t.Error("what was handed in was changed")
	}
	spoil(l, at(77))
	if p != f.x10 || q != f.y9 || !is {
		t.Error(p, q, is)
	}
}

// What is asked of one chain by many at once is the same for each.
func TestClashAskedByMany(t *testing.T) {
	f := newForked(t)
	l := f.all()
	slices.Reverse(l)
	answers := make(chan bool)
	for range 8 {
		go func() {
			p, q, is := Clash(f.c, l...)
			answers <- p == f.y9 && q == f.x10 && is
		}()
	}
	for range 8 {
		if !<-answers {
			t.Error("an answer is another one")
		}
	}
}
