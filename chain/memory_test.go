package chain

import (
	"bytes"
	"math/rand/v2"
	"slices"
	"testing"

	"landmark/api"
	"landmark/codec"
)

// bush is a chain of some headers with operations, on three branches.
func bush(t *testing.T) *pair {
	t.Helper()
	p := newPair(t, api.Point{Epoch: 5, Name: allOf(1)})
	for i := range uint64(3) {
		branch := p.line(p.add(api.Header{Parent: allOf(1), Epoch: 6 + i, Ops: ops()}), epochs(10+i, 2, 4)...)
		p.add(api.Header{Parent: branch[1].Name, Epoch: 40 + i, Ops: append(ops(), marked(i)...)})
	}
	p.hold()
	return p
}

// spoil changes all that a header points to.
func spoil(h api.Header) {
	for i := range h.Ops {
		for j := range h.Ops[i].Evidence {
			v := &h.Ops[i].Evidence[j]
			for k := range v.Sig {
				v.Sig[k]++
			}
			v.Validator, v.Source, v.Target, v.Sig = 9, v.Target, v.Source, nil
		}
		h.Ops[i] = api.HeaderOp{Kind: api.OpExit, Validator: 33}
	}
}

// spoilPoints changes a list of points, and writes behind it where it has room.
func spoilPoints(l []api.Point) {
	l = l[:cap(l)]
	for i := range l {
		l[i] = api.Point{Epoch: 77, Name: allOf(77)}
	}
}

// What was handed in is not changed, and what becomes of it is nothing to the chain: neither all of it at once, nor one thing of it.
func TestHandedIn(t *testing.T) {
	for _, change := range []func(h api.Header){
		spoil,
		func(h api.Header) { h.Ops[0].Stake++ },
		func(h api.Header) { h.Ops[2] = h.Ops[1] },
		func(h api.Header) { h.Ops[2].Evidence[0].Validator++ },
		func(h api.Header) { h.Ops[2].Evidence[1].Target.Epoch++ },
		func(h api.Header) { h.Ops[2].Evidence[0].Sig[0]++ },
		func(h api.Header) { h.Ops[2].Evidence[1].Sig[7]++ },
		func(h api.Header) { _ = append(h.Ops[:1], api.HeaderOp{Kind: api.OpExit, Validator: 5}) },
	} {
		p := bush(t)
		h := api.Header{Parent: allOf(1), Epoch: 9, Ops: ops()}
		want := bytesOf(h)
		if _, e := p.c.Check(h); e != api.OK || !bytes.Equal(bytesOf(h), want) {
			t.Fatal("Check has changed what was handed in", e)
		}
		point := p.add(h)
		if !bytes.Equal(bytesOf(h), want) {
			t.Fatal("Add has changed what was handed in")
		}
		change(h)
		if got, _ := p.c.Header(point.Name); !bytes.Equal(bytesOf(got), want) {
			t.Error("what was handed in was changed, and the header with it")
		}
		p.hold()
		p.refuse(api.Header{Parent: allOf(1), Epoch: 9, Ops: ops()}, api.ErrExists)
	}
}

// One list of operations, handed in with two headers, is two headers' own.
func TestHandedInTwice(t *testing.T) {
	p := newPair(t, api.Point{Epoch: 5, Name: allOf(1)})
	l := ops()
	a := p.add(api.Header{Parent: allOf(1), Epoch: 6, Ops: l})
	b := p.add(api.Header{Parent: a.Name, Epoch: 7, Ops: l})
	got, _ := p.c.Header(a.Name)
	spoil(got)
	p.hold()
	got, _ = p.c.Header(b.Name)
	spoil(got)
	spoil(api.Header{Ops: l})
	p.hold()
}

// What is answered is the caller's: changed, it changes nothing, neither of the chain nor of what is answered next, or was answered ahead.
func TestAnswered(t *testing.T) {
	p := bush(t)
	for _, point := range p.m.points() {
		ahead, _ := p.c.Header(point.Name)
		h, _ := p.c.Header(point.Name)
		spoil(h)
		if point != p.m[0].point && !bytes.Equal(bytesOf(ahead), p.m[p.m.find(point.Name)].bytes) {
			t.Error("two answers share something")
		}
		path, _ := p.c.Path(point.Name)
		spoilPoints(path)
		spoilPoints(p.c.Children(point.Name))
		spoilPoints(p.c.Tips())
		p.hold()
	}
	for _, h := range p.c.All() {
		spoil(h)
	}
	p.hold()
}

// gathered is what All hands out, from first to last.
func gathered(p *pair) [][]byte {
	var l [][]byte
	for i, h := range p.c.All() {
		if i != len(l) {
			p.t.Fatalf("the number %d at place %d", i, len(l))
		}
		l = append(l, bytesOf(h))
	}
	return l
}

// P10.2: All may be left at any time, and gone through again: whole each time, also what was changed of it ahead, and one way within another.
func TestAllLeftAndAgain(t *testing.T) {
	p := bush(t)
	all, want := p.c.All(), gathered(p)
	if len(want) != p.c.Len() {
		t.Fatal(len(want))
	}
	for stop := range len(want) + 1 {
		n := 0
		for i, h := range all {
			if n == stop {
				break
			}
			if i != n || !bytes.Equal(bytesOf(h), want[i]) {
				t.Fatalf("stop %d: the number %d at place %d", stop, i, n)
			}
			spoil(h)
			n++
		}
		if n != stop {
			t.Errorf("left behind %d, not %d", n, stop)
		}
	}
	count := 0
	for i := range all {
		for j, h := range all {
			if j > i {
				break
			}
			if !bytes.Equal(bytesOf(h), want[j]) {
				t.Fatal("one way within another", i, j)
			}
			count++
		}
	}
	if n := len(want); count != n*(n+1)/2 {
		t.Error("one way within another:", count)
	}
}

// P10.2: All goes over the headers as they are when it is called: not over those that are added behind that, ahead of the way or on it.
func TestAllWhileAdded(t *testing.T) {
	p := bush(t)
	want := gathered(p)
	all := p.c.All()
	next := p.under(p.m[0].point, 50)
	for range 3 {
		n := 0
		for i, h := range all {
			if i != n || !bytes.Equal(bytesOf(h), want[i]) {
				t.Fatalf("the number %d at place %d", i, n)
			}
			n++
			// Enough of them that what holds the headers has to grow.
			for range 8 {
				next = p.under(next, next.Epoch+1)
			}
		}
		if n != len(want) {
			t.Errorf("%d of %d", n, len(want))
		}
	}
	p.hold()
	early := newPair(t, api.Point{Epoch: 5, Name: allOf(1)})
	all = early.c.All()
	early.under(early.m[0].point, 6)
	for range all {
		t.Error("All of the anchor alone")
	}
	early.hold()
}

// P10.2: a copy has all that there is, and goes on apart: what is added to one is not the other one's.
func TestCopy(t *testing.T) {
	p := bush(t)
	tip := p.m[len(p.m)-1].point
	o := &pair{t, p.c.Copy(), slices.Clone(p.m)}
	o.hold()
	// Now one, now the other one goes on, by other headers, and at last by those that the other one has.
	for i := range uint64(20) {
		p.add(api.Header{Parent: tip.Name, Epoch: 60 + i, Ops: marked(1)})
		o.hold()
		o.add(api.Header{Parent: tip.Name, Epoch: 60 + i, Ops: marked(2)})
		o.under(p.m[0].point, 100-i)
		p.hold()
	}
	o.hold()
	alone := p.m[len(p.m)-1]
	if o.c.Knows(alone.point) {
		t.Error("the copy knows what was added to the other one")
	}
	h, e := codec.HeaderOf(alone.bytes)
	if e != api.OK {
		t.Fatal(e)
	}
	o.add(h)
	o.refuse(h, api.ErrExists)
	p.hold()
}

// P10.2: a copy's copy, copies at each step, and what is answered of a copy changed.
func TestCopies(t *testing.T) {
	source := rand.New(rand.NewPCG(10, 99))
	all := []*pair{newPair(t, api.Point{Epoch: 5, Name: allOf(1)})}
	for range 40 {
		p := all[source.IntN(len(all))]
		o := &pair{t, p.c.Copy(), slices.Clone(p.m)}
		all = append(all, o)
		for _, p := range []*pair{o, p, o} {
			p.give(someHeader(source, p.m))
		}
		for _, h := range o.c.All() {
			spoil(h)
		}
		spoilPoints(o.c.Tips())
	}
	for _, p := range all {
		p.hold()
	}
}

// What is handed out over a copy is not shared with the chain that it is of, nor the other way.
func TestCopyShares(t *testing.T) {
	p := bush(t)
	all := p.c.All()
	o := &pair{t, p.c.Copy(), slices.Clone(p.m)}
	o.under(o.m[0].point, 70)
	p.under(p.m[0].point, 71)
	n := 0
	for range all {
		n++
	}
	if n != p.c.Len()-1 {
		t.Error("All ahead of a copy:", n)
	}
	for _, point := range p.m.points() {
		h, _ := p.c.Header(point.Name)
		spoil(h)
	}
	o.hold()
	p.hold()
}

// A chain's value, assigned, is the same chain: what is added to one is the other one's, too.
func TestValueAssigned(t *testing.T) {
	p := bush(t)
	value := *p.c
	p.under(p.m[0].point, 80)
	o := &pair{t, &value, p.m}
	o.hold()
	o.under(p.m[0].point, 81)
	o.hold()
	p.m = o.m
	p.hold()
}

// What is asked of one chain by many at once is the same for each.
func TestAskedByMany(t *testing.T) {
	p := bush(t)
	tip := p.m[len(p.m)-1].point
	answers := make(chan bool)
	for range 8 {
		go func() {
			at, e := p.c.At(tip.Name, tip.Epoch-1)
			path, _ := p.c.Path(tip.Name)
			answers <- e == api.OK && slices.Contains(path, at) && p.c.Copy().Len() == p.c.Len() && len(p.c.Tips()) > 0
		}()
	}
	for range 8 {
		if !<-answers {
			t.Error("an answer is another one")
		}
	}
}
