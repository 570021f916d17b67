package chain

import (
	"math"
	"testing"

	"landmark/api"
)

var (
	rightAnchors = []uint64{0, 1, 5, 255, 256, 1 << 32, api.MaxEpoch - 1, api.MaxEpoch}
	wrongAnchors = []uint64{api.MaxEpoch + 1, 1<<63 - 1, 1 << 63, 1<<63 + 5, math.MaxUint64}
)

// P10.1: a chain of the anchor alone, of each epoch that may be, whatever its name is.
func TestNew(t *testing.T) {
	for _, epoch := range rightAnchors {
		for _, name := range []api.Hash{{}, {1}, {31: 1}, allOf(255)} {
			p := newPair(t, api.Point{Epoch: epoch, Name: name})
			p.hold()
			if tips := p.c.Tips(); len(tips) != 1 || tips[0] != p.m[0].point {
				t.Error("Tips:", tips)
			}
		}
	}
	for _, epoch := range wrongAnchors {
		c, e := New(api.Point{Epoch: epoch, Name: allOf(1)})
		expect(t, e, api.ErrArg, "an anchor of epoch ", epoch)
		if c != nil {
			t.Error("a chain beside an error")
		}
	}
}

// P10.1: chains of one anchor go on apart.
func TestNewTwice(t *testing.T) {
	anchor := api.Point{Epoch: 5, Name: allOf(1)}
	one, two := newPair(t, anchor), newPair(t, anchor)
	one.under(anchor, 6)
	two.hold()
	two.under(anchor, 7)
	one.hold()
	two.hold()
}

// The chapter's example.
func TestExample(t *testing.T) {
	anchor := api.Point{Epoch: 5, Name: allOf(1)}
	p := newPair(t, anchor)
	a := p.under(anchor, 7)
	b := p.under(a, 9)
	if at, e := p.c.At(b.Name, 8); at != a || e != api.OK {
		t.Error("At:", at, e)
	}
	if path, e := p.c.Path(b.Name); len(path) != 3 || path[0] != anchor || path[1] != a || path[2] != b || e != api.OK {
		t.Error("Path:", path, e)
	}
	p.hold()
}

// P10.1: an epoch has to be above the parent's, by one or by whatever more, on an anchor of each epoch.
func TestAddEpoch(t *testing.T) {
	for _, from := range rightAnchors {
		for _, step := range []uint64{1, 2, 3, 255, 256, 1 << 31, 1 << 32, 1 << 61, api.MaxEpoch - from} {
			epoch := from + step
			if step == 0 || epoch > api.MaxEpoch {
				continue
			}
			p := newPair(t, api.Point{Epoch: from, Name: allOf(1)})
			a := p.under(p.m[0].point, epoch)
			for _, wrong := range []uint64{epoch, epoch - 1, epoch / 2, from, 1} {
				if wrong > 0 {
					p.refuse(api.Header{Parent: a.Name, Epoch: wrong, Ops: marked(3)}, api.ErrEpoch)
				}
			}
			for _, wrong := range []uint64{0, api.MaxEpoch + 1, 1 << 63, 1<<63 + epoch + 1, math.MaxUint64} {
				p.refuse(api.Header{Parent: a.Name, Epoch: wrong}, api.ErrArg)
			}
			if epoch < api.MaxEpoch {
				p.under(a, epoch+1)
				p.under(a, api.MaxEpoch)
			}
			p.hold()
		}
	}
}

// P10.1: of the anchor's epoch, and below it, a child is refused, whatever that epoch is.
func TestAddEpochOfAnchor(t *testing.T) {
	for _, from := range rightAnchors {
		p := newPair(t, api.Point{Epoch: from, Name: allOf(1)})
		for _, wrong := range []uint64{from, from - 1, from / 2, 1} {
			if 0 < wrong && wrong <= from {
				p.refuse(api.Header{Parent: allOf(1), Epoch: wrong}, api.ErrEpoch)
			}
		}
		p.refuse(api.Header{Parent: allOf(1)}, api.ErrArg)
		p.refuse(api.Header{Parent: allOf(1), Epoch: api.MaxEpoch + 1}, api.ErrArg)
	}
}

// wrongOps are operations that may not be, for one reason each.
func wrongOps() []api.HeaderOp {
	slash := ops()[2]
	slash.Evidence = slash.Evidence[:1]
	long := api.HeaderOp{Kind: api.OpSlash, Validator: 1, Evidence: []api.Vote{vote(1), vote(1)}}
	long.Evidence[1].Sig = make([]byte, api.MaxSig+1)
	return []api.HeaderOp{
		{}, {Kind: 4}, {Kind: -1}, {Kind: api.OpDeposit}, {Kind: api.OpDeposit, Stake: api.MaxStake + 1}, {Kind: api.OpDeposit, Stake: 1, Validator: 1},
		{Kind: api.OpExit}, {Kind: api.OpExit, Validator: 65}, {Kind: api.OpExit, Validator: math.MinInt}, {Kind: api.OpExit, Validator: 1, Stake: 1}, slash, long,
	}
}

// P10.1: a header that may not be, ahead of all else that is wrong with it.
func TestAddMayNot(t *testing.T) {
	anchor := api.Point{Epoch: 5, Name: allOf(1)}
	p := newPair(t, anchor)
	a := p.under(anchor, 7)
	tooMany := api.Header{Parent: a.Name, Epoch: 8}
	for n := range uint64(17) {
		tooMany.Ops = append(tooMany.Ops, marked(n)...)
	}
	p.refuse(tooMany, api.ErrArg)
	for _, parent := range []api.Hash{a.Name, anchor.Name, {}, allOf(9)} {
		for _, epoch := range []uint64{0, api.MaxEpoch + 1, math.MaxUint64} {
			p.refuse(api.Header{Parent: parent, Epoch: epoch}, api.ErrArg)
		}
		for _, op := range wrongOps() {
			for _, epoch := range []uint64{4, 7, 8} {
				p.refuse(api.Header{Parent: parent, Epoch: epoch, Ops: append(ops(), op)}, api.ErrArg)
			}
		}
	}
	tooMany.Ops = tooMany.Ops[1:]
	p.add(tooMany)
	p.hold()
}

// P10.1: a name that is known is refused, ahead of what else is wrong; what differs in one thing has another name.
func TestAddKnown(t *testing.T) {
	anchor := api.Point{Epoch: 5, Name: allOf(1)}
	p := newPair(t, anchor)
	h := api.Header{Parent: anchor.Name, Epoch: 7, Ops: ops()}
	a := p.add(h)
	p.refuse(h, api.ErrExists)
	p.refuse(api.Header{Parent: anchor.Name, Epoch: 7, Ops: ops()}, api.ErrExists)
	p.add(api.Header{Parent: anchor.Name, Epoch: 7})
	// Nil and empty lists are one.
	p.refuse(api.Header{Parent: anchor.Name, Epoch: 7, Ops: []api.HeaderOp{}}, api.ErrExists)
	p.add(api.Header{Parent: anchor.Name, Epoch: 8, Ops: ops()})
	p.add(api.Header{Parent: a.Name, Epoch: 8, Ops: ops()})
	for _, change := range []func(l []api.HeaderOp){
		func(l []api.HeaderOp) { l[0].Stake++ },
		func(l []api.HeaderOp) { l[1].Validator++ },
		func(l []api.HeaderOp) { l[2].Evidence[1].Sig[7]++ },
		func(l []api.HeaderOp) { l[0], l[1] = l[1], l[0] },
	} {
		other := api.Header{Parent: anchor.Name, Epoch: 7, Ops: ops()}
		change(other.Ops)
		p.add(other)
		p.refuse(other, api.ErrExists)
	}
	p.refuse(h, api.ErrExists)
}

// P10.1: the anchor's own name is known, so that the header of that name is refused: ahead of its parent, which is not known here, and of its epoch.
func TestAddAnchorsOwn(t *testing.T) {
	h := api.Header{Parent: allOf(3), Epoch: 7, Ops: ops()}
	for _, epoch := range []uint64{0, 6, 7, 8, api.MaxEpoch} {
		p := newPair(t, api.Point{Epoch: epoch, Name: pointOf(h).Name})
		p.refuse(h, api.ErrExists)
		p.refuse(api.Header{Parent: allOf(3), Epoch: 7}, api.ErrParent)
		if epoch < api.MaxEpoch {
			p.under(p.m[0].point, epoch+1)
		}
		p.refuse(h, api.ErrExists)
	}
}

// P10.1: a parent that is not known, also such as are like known ones; and it is known as soon as it is added.
func TestAddParent(t *testing.T) {
	anchor := api.Point{Epoch: 5, Name: allOf(1)}
	p := newPair(t, anchor)
	a := api.Header{Parent: anchor.Name, Epoch: 6}
	b := api.Header{Parent: pointOf(a).Name, Epoch: 7}
	p.refuse(b, api.ErrParent)
	p.add(a)
	for _, name := range p.unknown() {
		// Whatever the epoch is: one that is below all known ones', too.
		for _, epoch := range []uint64{1, 5, 6, 7, api.MaxEpoch} {
			p.refuse(api.Header{Parent: name, Epoch: epoch}, api.ErrParent)
		}
	}
	p.add(b)
	p.refuse(a, api.ErrExists)
	p.hold()
}

// P10.1: an anchor of a name of noughts is known by that name, and no other anchor is.
func TestAddUnderNoughts(t *testing.T) {
	p := newPair(t, api.Point{Epoch: 5})
	p.refuse(api.Header{Epoch: 5}, api.ErrEpoch)
	p.under(api.Point{}, 6)
	p.refuse(api.Header{Epoch: 6}, api.ErrExists)
	p = newPair(t, api.Point{Epoch: 5, Name: allOf(1)})
	p.refuse(api.Header{Epoch: 6}, api.ErrParent)
	p.hold()
}

// filled is a chain of so many headers, each under one that a rule tells by its number.
func filled(t *testing.T, n int, parent func(i int) int) *pair {
	t.Helper()
	p := newPair(t, api.Point{Epoch: 5, Name: allOf(1)})
	depths, points := []uint64{0}, []api.Point{p.m[0].point}
	for i := range n {
		up := parent(i)
		h := api.Header{Parent: points[up].Name, Epoch: 6 + depths[up], Ops: marked(uint64(i))}
		point, e := p.c.Add(h)
		if e != api.OK || point != pointOf(h) {
			t.Fatalf("header %d: %v, %v", i, point, e)
		}
		p.m = append(p.m, entry{point: point, parent: up, bytes: bytesOf(h)})
		depths, points = append(depths, depths[up]+1), append(points, point)
	}
	return p
}

// P10.1: MaxHeaders headers, the anchor not among them, and none more, behind all other errors.
func TestFull(t *testing.T) {
	for _, parent := range []func(i int) int{
		func(i int) int { return i },
		func(i int) int { return 0 },
		func(i int) int { return i / 2 },
	} {
		p := filled(t, 4095, parent)
		last := p.m[len(p.m)-1].point
		more := func(p *pair, epoch uint64) api.Header {
			return api.Header{Parent: last.Name, Epoch: epoch, Ops: ops()}
		}
		other := &pair{t, p.c.Copy(), p.m}
		p.add(more(p, last.Epoch+1))
		for range 2 {
			if _, e := p.give(more(p, last.Epoch+2)); e != api.ErrFull {
				t.Fatal("one more:", e)
			}
		}
		if _, e := p.give(api.Header{Parent: p.m[0].point.Name, Epoch: api.MaxEpoch}); e != api.ErrFull {
			t.Error("under the anchor:", e)
		}
		for _, r := range []struct {
			h    api.Header
			want api.Errno
		}{
			{more(p, 0), api.ErrArg},
			{more(p, last.Epoch+1), api.ErrExists},
			{api.Header{Parent: allOf(9), Epoch: 9}, api.ErrParent},
			{more(p, last.Epoch), api.ErrEpoch},
		} {
			if _, e := p.give(r.h); e != r.want {
				t.Errorf("of a full chain: %v; want %v", e, r.want)
			}
		}
		if p.c.Len() != api.MaxHeaders || p.c.Copy().Len() != api.MaxHeaders {
			t.Error("Len:", p.c.Len())
		}
		if _, e := p.c.Copy().Add(more(p, last.Epoch+2)); e != api.ErrFull {
			t.Error("a full one's copy:", e)
		}
		other.add(more(other, last.Epoch+2))
		if _, e := other.give(more(other, last.Epoch+1)); e != api.ErrFull {
			t.Error("a copy that was filled apart:", e)
		}
	}
}

// P10.1: two things are wrong with each of these: the one that comes first in the chapter is told.
func TestAddTwoErrors(t *testing.T) {
	anchor := api.Point{Epoch: 5, Name: allOf(1)}
	p := newPair(t, anchor)
	known := api.Header{Parent: anchor.Name, Epoch: 7}
	a := p.add(known)
	for _, r := range []struct {
		h    api.Header
		want api.Errno
	}{
		// It may not be, and its parent is not known; or its epoch is not above the parent's.
		{api.Header{Parent: allOf(2)}, api.ErrArg},
		{api.Header{Parent: allOf(2), Epoch: 8, Ops: wrongOps()[:1]}, api.ErrArg},
		{api.Header{Parent: a.Name}, api.ErrArg},
		{api.Header{Parent: a.Name, Epoch: 7, Ops: wrongOps()[:1]}, api.ErrArg},
		// It may not be, and is like a known one but for what is wrong with it.
		{api.Header{Parent: anchor.Name, Epoch: 7, Ops: wrongOps()[:1]}, api.ErrArg},
		// Its parent is not known, and its epoch is above no known one's.
		{api.Header{Parent: allOf(2), Epoch: 1}, api.ErrParent},
		{known, api.ErrExists},
	} {
		p.refuse(r.h, r.want)
	}
	var none *Chain
	for _, c := range []*Chain{none, {}} {
		for _, h := range []api.Header{{}, known, {Parent: allOf(2), Epoch: 1}} {
			if got, e := c.Add(h); got != (api.Point{}) || e != api.ErrNil {
				t.Error("Add of nil:", got, e)
			}
		}
	}
}
