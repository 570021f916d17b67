package ffg

import (
	"bytes"
	"math"
	"math/rand/v2"
	"slices"
	"testing"

	"landmark/api"
)

// model is the chapter's words written anew: an anchor's checkpoint, and links that are gone over again and again, till nothing follows any more.
type model struct {
	anchor api.Point
	links  []api.Link
}

const mostEpoch = 4611686018427387904

// judge is the error of telling a link, by the chapter's order.
func (m model) judge(l api.Link) api.Errno {
	switch {
	case l.Source.Epoch > mostEpoch, l.Target.Epoch > mostEpoch, l.Target.Epoch <= l.Source.Epoch:
		return api.ErrArg
	case slices.Contains(m.links, l):
		return api.ErrExists
	}
	return api.OK
}

// with is the model with a link more.
func (m model) with(l api.Link) model {
	return model{m.anchor, append(slices.Clone(m.links), l)}
}

// justified are the anchor, and targets of links whose source is among them.
func (m model) justified() []api.Point {
	found := []api.Point{m.anchor}
	for isMore := true; isMore; {
		isMore = false
		for _, l := range m.links {
			if slices.Contains(found, l.Source) && !slices.Contains(found, l.Target) {
				found = append(found, l.Target)
				isMore = true
			}
		}
	}
	return inOrder(found)
}

// final are the anchor, and the justified sources of links to the next epoch.
func (m model) final() []api.Point {
	var found []api.Point
	for _, p := range m.justified() {
		isOne := p == m.anchor
		for _, l := range m.links {
			isOne = isOne || l.Source == p && l.Target.Epoch-1 == p.Epoch
		}
		if isOne {
			found = append(found, p)
		}
	}
	return found
}

// hasPath is whether links lead from the anchor to a point: they are gone back over, from the point's end on.
func (m model) hasPath(p api.Point) bool {
	if p == m.anchor {
		return true
	}
	for _, l := range m.links {
		if l.Target == p && l.Source.Epoch < p.Epoch && m.hasPath(l.Source) {
			return true
		}
	}
	return false
}

// inOrder is by Epoch, then by Name, by going over and over it.
func inOrder(l []api.Point) []api.Point {
	for i := range l {
		for j := range l[:i] {
			if l[i].Epoch < l[j].Epoch || l[i].Epoch == l[j].Epoch && bytes.Compare(l[i].Name[:], l[j].Name[:]) < 0 {
				l[i], l[j] = l[j], l[i]
			}
		}
	}
	return l
}

// pair is a gadget, and the model that it is held against.
type pair struct {
	t *testing.T
	g *Gadget
	m model
}

func newPair(t *testing.T, anchor api.Point) *pair {
	t.Helper()
	g, e := New(anchor)
	if g == nil || e != api.OK {
		t.Fatalf("New of %v: %v", anchor, e)
	}
	return &pair{t, g, model{anchor: anchor}}
}

// give tells a link to both, and wants both to answer the same.
func (o *pair) give(l api.Link) api.Errno {
	o.t.Helper()
	code := o.m.judge(l)
	if e := o.g.Strong(l); e != code {
		o.t.Fatalf("Strong of %v: %v; want %v", l, e, code)
	}
	if code == api.OK {
		o.m = o.m.with(l)
	}
	return code
}

// tell tells links that are to be taken.
func (o *pair) tell(links ...api.Link) {
	o.t.Helper()
	for _, l := range links {
		if e := o.give(l); e != api.OK {
			o.t.Fatalf("%v: %v", l, e)
		}
	}
}

// refuse tells a link that is to be refused, and wants nothing to have changed.
func (o *pair) refuse(l api.Link, want api.Errno) {
	o.t.Helper()
	if e := o.give(l); e != want {
		o.t.Fatalf("%v: %v; want %v", l, e, want)
	}
	o.hold()
}

// hold wants all looks to tell what the model tells, of points that are there and of such as are near them.
func (o *pair) hold() {
	o.t.Helper()
	known, sure := o.m.justified(), o.m.final()
	o.holdWhole(known, sure)
	for _, p := range o.asked() {
		if is, want := o.g.Justified(p), slices.Contains(known, p); is != want {
			o.t.Fatalf("Justified of %v: %v", p, is)
		}
		if is, want := o.g.Final(p), slices.Contains(sure, p); is != want {
			o.t.Fatalf("Final of %v: %v", p, is)
		}
	}
}

// holdWhole holds what is asked of the gadget as a whole.
func (o *pair) holdWhole(known, sure []api.Point) {
	o.t.Helper()
	if l := o.g.AllJustified(); !slices.Equal(l, known) {
		o.t.Fatalf("AllJustified: %v; want %v", l, known)
	}
	if l := o.g.AllFinal(); !slices.Equal(l, sure) {
		o.t.Fatalf("AllFinal: %v; want %v", l, sure)
	}
	if p := o.g.Highest(); p != known[len(known)-1] {
		o.t.Fatalf("Highest: %v; want %v", p, known[len(known)-1])
	}
	if p := o.g.Best(); p != sure[len(sure)-1] {
		o.t.Fatalf("Best: %v; want %v", p, sure[len(sure)-1])
	}
	if l := o.g.Links(); !slices.Equal(l, o.m.links) {
		o.t.Fatalf("Links: %v; want %v", l, o.m.links)
	}
}

// asked are the anchor, the ends of all links, and points that are like one of them but for one thing, or that may not be.
func (o *pair) asked() []api.Point {
	known := []api.Point{o.m.anchor}
	for _, l := range o.m.links {
		known = append(known, l.Source, l.Target)
	}
	l := append([]api.Point{{}, {Epoch: mostEpoch}, {Epoch: math.MaxUint64}}, known...)
	for _, p := range known {
		for _, change := range pointChanges {
			l = append(l, changed(p, change))
		}
		l = append(l, api.Point{Epoch: p.Epoch}, api.Point{Name: p.Name}, api.Point{Epoch: mostEpoch + 1, Name: p.Name}, api.Point{Epoch: math.MaxUint64, Name: p.Name})
	}
	return l
}

// pointChanges each change one thing of a checkpoint.
var pointChanges = []func(*api.Point){
	func(p *api.Point) { p.Epoch++ },
	func(p *api.Point) { p.Epoch-- },
	func(p *api.Point) { p.Epoch ^= 1 << 61 },
	func(p *api.Point) { p.Epoch ^= 1 << 63 },
	func(p *api.Point) { p.Name[0] ^= 1 },
	func(p *api.Point) { p.Name[15] ^= 128 },
	func(p *api.Point) { p.Name[31] ^= 1 },
}

// changed is x with a change; the change is a copy's.
func changed[T any](x T, change func(*T)) T {
	change(&x)
	return x
}

func allOf(x byte) api.Hash { return api.Hash(bytes.Repeat([]byte{x}, 32)) }

// named is a checkpoint of an epoch and a name.
func named(epoch uint64, name byte) api.Point {
	return api.Point{Epoch: epoch, Name: api.Hash{0: 3, 30: name, 31: 9}}
}

// at is the checkpoint of an epoch that is asked of where names are nothing to it.
func at(epoch uint64) api.Point { return named(epoch, 1) }

// link is from one checkpoint to another one.
func link(source, target api.Point) api.Link { return api.Link{Source: source, Target: target} }

// from is a link from one epoch's checkpoint to another one's.
func from(source, target uint64) api.Link { return link(at(source), at(target)) }

// turned is a link with its two ends the other way round.
func turned(l api.Link) api.Link { return link(l.Target, l.Source) }

// wrongPoints may not be: their epochs are too great.
func wrongPoints() []api.Point {
	var l []api.Point
	for _, epoch := range []uint64{mostEpoch + 1, mostEpoch + 2, 1<<63 - 1, 1 << 63, 1<<63 + 5, math.MaxUint64 - 1, math.MaxUint64} {
		l = append(l, at(epoch), api.Point{Epoch: epoch}, api.Point{Epoch: epoch, Name: allOf(255)})
	}
	return l
}

// wrongLinks may not be: an end may not, or both may not, or the target's epoch isn't above the source's.
func wrongLinks() []api.Link {
	var l []api.Link
	for i, p := range wrongPoints() {
		for _, other := range append(wrongPoints()[i:], at(0), at(5), at(7), at(mostEpoch)) {
			l = append(l, link(p, other), link(other, p))
		}
	}
	for _, epoch := range []uint64{0, 1, 5, 6, 7, mostEpoch - 1, mostEpoch} {
		l = append(l, from(epoch, epoch), link(at(epoch), named(epoch, 2)), link(named(epoch, 2), at(epoch)))
		for _, below := range []uint64{0, 1, 4, 5, 6, mostEpoch - 1} {
			if below < epoch {
				l = append(l, from(epoch, below), link(at(epoch), named(below, 2)))
			}
		}
	}
	return l
}

// some is a link by chance, between few points of few epochs; it may not be, often.
func some(source *rand.Rand) api.Link {
	point := func() api.Point { return named(5+source.Uint64N(6), byte(1+source.IntN(2))) }
	l := link(point(), point())
	switch source.IntN(30) {
	case 0:
		l.Source.Epoch |= 1 << 62
	case 1:
		l.Target.Epoch |= 1 << 62
	case 2:
		l.Source.Epoch = 4
	}
	if l.Source.Epoch > l.Target.Epoch && source.IntN(4) > 0 {
		l = turned(l)
	}
	return l
}

// inAllOrders does something with each order of a list.
func inAllOrders[T any](l []T, do func([]T)) {
	var put func(o, left []T)
	put = func(o, left []T) {
		if len(left) == 0 {
			do(o)
		}
		for i := range left {
			put(append(slices.Clone(o), left[i]), slices.Delete(slices.Clone(left), i, i+1))
		}
	}
	put(nil, l)
}

// spoil changes all of a list, and what lies behind it where it has room.
func spoil[T any](l []T, x T) {
	l = l[:cap(l)]
	for i := range l {
		l[i] = x
	}
}
