package chain

import (
	"math/rand/v2"
	"reflect"
	"slices"
	"testing"

	"landmark/api"
)

// P10.2: all looks, of trees that grow at random, among headers that are refused.
func TestLooks(t *testing.T) {
	for seed := range uint64(12) {
		source := rand.New(rand.NewPCG(10, seed))
		p := newPair(t, api.Point{Epoch: rightAnchors[source.IntN(6)], Name: allOf(byte(seed))})
		codes := map[api.Errno]int{}
		for range 90 {
			_, e := p.give(someHeader(source, p.m))
			codes[e]++
			if source.IntN(9) == 0 {
				p.hold()
			}
		}
		p.hold()
		if len(p.m) < 30 || seed == 0 && len(codes) < 5 {
			t.Errorf("of seed %d there came %d headers, and errors %v", seed, len(p.m), codes)
		}
	}
}

// P10.2: children and tips stand in the order in which they were added, whatever their epochs and names are.
func TestChildrenAndTips(t *testing.T) {
	anchor := api.Point{Epoch: 5, Name: allOf(1)}
	p := newPair(t, anchor)
	var children []api.Point
	for _, epoch := range []uint64{9, 6, 300, 7, 8, 6 + 1<<40, 256, 10} {
		children = append(children, p.under(anchor, epoch))
		if !slices.Equal(p.c.Children(anchor.Name), children) || !slices.Equal(p.c.Tips(), children) {
			t.Fatal("behind", epoch, p.c.Children(anchor.Name), p.c.Tips())
		}
		if len(p.c.Children(children[0].Name)) != 0 {
			t.Fatal("a tip's children")
		}
	}
	// A child of one in the midst: that is no tip any more, and the child stands last of them.
	low := p.under(children[3], 400)
	if got := p.c.Children(children[3].Name); !slices.Equal(got, []api.Point{low}) {
		t.Error("Children:", got)
	}
	want := append(slices.Concat(children[:3], children[4:]), low)
	if !slices.Equal(p.c.Children(anchor.Name), children) || !slices.Equal(p.c.Tips(), want) {
		t.Error(p.c.Children(anchor.Name), p.c.Tips())
	}
	// Two more of one parent, with others in between.
	two := p.under(children[0], 11)
	p.under(low, 401)
	three := p.under(children[0], 10)
	if got := p.c.Children(children[0].Name); !slices.Equal(got, []api.Point{two, three}) {
		t.Error("Children:", got)
	}
	p.hold()
}

// P10.2: At at each epoch from below the anchor's to above the header's, on long branches of many gaps, of each of their headers.
func TestAtEachEpoch(t *testing.T) {
	for _, gap := range []uint64{1, 2, 3, 7} {
		const from, n = 50, 160
		p := newPair(t, api.Point{Epoch: from, Name: allOf(1)})
		line := p.line(p.m[0].point, epochs(from+gap, gap, n)...)
		for place := range p.m {
			path := p.m.path(place)
			for epoch := uint64(from - 3); epoch <= from+gap*n+3; epoch++ {
				p.holdAt(p.m[place].point.Name, path, epoch)
			}
		}
		for _, epoch := range []uint64{0, 1, from - 1} {
			if got, e := p.c.At(line[n-1].Name, epoch); got != (api.Point{}) || e != api.ErrNone {
				t.Errorf("At(%d): %v, %v", epoch, got, e)
			}
		}
	}
}

// P10.2: At and Under on branches that part from a long one at each of its places: up to there they answer what it does, behind it not.
func TestBranches(t *testing.T) {
	const n = 200
	p := newPair(t, api.Point{Epoch: 5, Name: allOf(1)})
	line := append([]api.Point{p.m[0].point}, p.line(p.m[0].point, epochs(7, 2, n)...)...)
	for i, parting := range line {
		tips := p.line(parting, epochs(parting.Epoch+1, 3, 1+i%5)...)
		tip := tips[len(tips)-1]
		path := append(slices.Clone(line[:i+1]), tips...)
		for epoch := parting.Epoch - min(parting.Epoch, 9); epoch <= tip.Epoch+2; epoch++ {
			p.holdAt(tip.Name, path, epoch)
		}
		for _, other := range line {
			// The anchor's line is ahead of the parting, or behind it.
			if got, want := p.c.Under(tip.Name, other.Name), other.Epoch <= parting.Epoch; got != want {
				t.Fatalf("parting at %d, Under of %d: %v", i, other.Epoch, got)
			}
			if p.c.Under(other.Name, tip.Name) {
				t.Fatalf("parting at %d: %d is under the branch's tip", i, other.Epoch)
			}
		}
	}
	p.hold()
}

// P10.2: a line of as many headers as there may be: each one's ancestors, near and far, one by one from some of them.
func TestLongLine(t *testing.T) {
	p := filled(t, api.MaxHeaders, func(i int) int { return i })
	for _, place := range []int{0, 1, 2, 3, 7, 8, 9, 1023, 1024, 1025, 2047, 2048, 2049, 3000, 4094, 4095, 4096} {
		name := p.m[place].point.Name
		for other, e := range p.m {
			if p.c.Under(name, e.point.Name) != (other <= place) {
				t.Fatalf("Under of %d and %d", place, other)
			}
			if got, code := p.c.At(name, e.point.Epoch); got != p.m[min(place, other)].point || code != api.OK {
				t.Fatalf("At of %d and %d: %v, %v", place, other, got, code)
			}
		}
		path, e := p.c.Path(name)
		if !slices.Equal(path, p.m[:place+1].points()) || e != api.OK {
			t.Fatalf("Path of %d: %d points, %v", place, len(path), e)
		}
	}
	if tips := p.c.Tips(); !slices.Equal(tips, p.m[4096:].points()) {
		t.Error("Tips:", tips)
	}
}

// P10.2: headers that lie one under the other with epochs as far apart as may be.
func TestWideEpochs(t *testing.T) {
	p := newPair(t, api.Point{Name: allOf(1)})
	var l []uint64
	for i := range 63 {
		l = append(l, 1<<i)
	}
	p.line(p.m[0].point, l...)
	p.line(p.m[0].point, 2, 3, api.MaxEpoch-1)
	p.hold()
}

// P10.2: Header, and All, tell a header whole: its operations, of each kind, and their evidence.
func TestHeaderWhole(t *testing.T) {
	p := newPair(t, api.Point{Epoch: 5, Name: allOf(1)})
	h := api.Header{Parent: allOf(1), Epoch: 6, Ops: ops()}
	a := p.add(h)
	bare := p.under(a, 7)
	got, e := p.c.Header(a.Name)
	if !reflect.DeepEqual(got, h) || e != api.OK {
		t.Error("Header:", got, e)
	}
	for i, got := range p.c.All() {
		if i == 0 && !reflect.DeepEqual(got, h) {
			t.Error("All:", got)
		}
	}
	if got, e := p.c.Header(bare.Name); got.Parent != a.Name || got.Epoch != 7 || len(got.Ops) != 0 || e != api.OK {
		t.Error("Header:", got, e)
	}
}

// P10.2: of nil, and of a zero one, there is nothing, and what tells an error tells ErrNil, whatever else is wrong.
func TestNil(t *testing.T) {
	var none *Chain
	for _, c := range []*Chain{none, {}, new(Chain)} {
		for _, name := range []api.Hash{{}, allOf(1)} {
			_, one := c.Add(api.Header{Parent: name, Epoch: 1})
			_, two := c.Check(api.Header{Parent: name, Epoch: 1})
			_, three := c.Check(api.Header{})
			epoch, four := c.Epoch(name)
			parent, five := c.Parent(name)
			at, six := c.At(name, 7)
			path, seven := c.Path(name)
			h, eight := c.Header(name)
			for i, e := range []api.Errno{one, two, three, four, five, six, seven, eight} {
				expect(t, e, api.ErrNil, i)
			}
			if epoch != 0 || parent != (api.Hash{}) || at != (api.Point{}) || len(path) != 0 || !reflect.DeepEqual(h, api.Header{}) {
				t.Error("something beside ErrNil")
			}
			if c.Knows(api.Point{Name: name}) || c.Under(name, name) || len(c.Children(name)) != 0 {
				t.Error("something is known of nil")
			}
		}
		if c.Anchor() != (api.Point{}) || len(c.Tips()) != 0 || c.Len() != 0 || c.Copy() != nil {
			t.Error("nil has something")
		}
		for range c.All() {
			t.Error("All of nil")
		}
	}
}

// P10.3: a path begins with the anchor, its epochs rise; Under is what Path says; At is its last one that is not above the epoch; each one but the first is the one's ahead of it child, and leads to it as its parent.
func TestFollows(t *testing.T) {
	for seed := range uint64(6) {
		source := rand.New(rand.NewPCG(103, seed))
		p := newPair(t, api.Point{Epoch: seed, Name: allOf(1)})
		for range 120 {
			p.give(someHeader(source, p.m))
		}
		all := p.m.points()
		for _, point := range all {
			path, e := p.c.Path(point.Name)
			if e != api.OK || path[0] != p.c.Anchor() || path[len(path)-1] != point {
				t.Fatal("Path:", path, e)
			}
			for i, here := range path[1:] {
				parent, e := p.c.Parent(here.Name)
				if path[i].Epoch >= here.Epoch || parent != path[i].Name || e != api.OK || !slices.Contains(p.c.Children(path[i].Name), here) {
					t.Fatal("Path:", path, i)
				}
			}
			for _, other := range all {
				if p.c.Under(point.Name, other.Name) != slices.Contains(path, other) {
					t.Fatal("Under:", point, other)
				}
			}
			for epoch := range point.Epoch + 3 {
				p.holdAt(point.Name, path, epoch)
			}
		}
	}
}
