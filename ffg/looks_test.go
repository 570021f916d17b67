package ffg

import (
	"bytes"
	"math/rand/v2"
	"slices"
	"testing"

	"landmark/api"
)

// P13.2, P13.3: a nil gadget, and a zero one, in every call.
func TestNothing(t *testing.T) {
	var none *Gadget
	for _, g := range []*Gadget{none, {}} {
		for range 2 {
			for _, p := range append(wrongPoints(), api.Point{}, at(5), at(6)) {
				if g.Justified(p) || g.Final(p) {
					t.Error("of nil:", p)
				}
			}
			if len(g.AllJustified()) != 0 || len(g.AllFinal()) != 0 || len(g.Links()) != 0 {
				t.Error("a list of nil")
			}
			if g.Best() != (api.Point{}) || g.Highest() != (api.Point{}) {
				t.Error("a point of nil")
			}
			if g.Copy() != nil {
				t.Error("a copy of nil")
			}
			if e := g.Strong(from(5, 6)); e != api.ErrNil {
				t.Error(e)
			}
		}
	}
}

// P13.3: all of many names of one epoch, by the names' bytes from the first on, each as a number from 0 to 255.
func TestSortedByName(t *testing.T) {
	anchor := at(5)
	var points []api.Point
	for _, i := range []int{0, 1, 15, 30, 31} {
		for _, x := range []byte{1, 2, 127, 128, 129, 255} {
			points = append(points, changed(api.Point{Epoch: 6, Name: allOf(3)}, func(p *api.Point) { p.Name[i] = x }))
		}
	}
	points = append(points, api.Point{Epoch: 6, Name: allOf(3)}, api.Point{Epoch: 6}, api.Point{Epoch: 6, Name: allOf(255)})
	source := rand.New(rand.NewPCG(13, 6))
	for range 12 {
		source.Shuffle(len(points), func(i, j int) { points[i], points[j] = points[j], points[i] })
		o := newPair(t, anchor)
		for i, p := range points {
			o.tell(link(anchor, p))
			if i%3 > 0 {
				o.tell(link(p, at(7)))
			}
			o.holdWhole(o.m.justified(), o.m.final())
		}
		o.hold()
		names := o.g.AllJustified()[1 : 1+len(points)]
		for i := range names[1:] {
			if bytes.Compare(names[i].Name[:], names[i+1].Name[:]) >= 0 {
				t.Fatal("names", i)
			}
		}
		last := names[len(names)-1]
		if last.Name != allOf(255) || o.g.Highest() != at(7) {
			t.Error(last, o.g.Highest())
		}
	}
}

// P13.3: epochs go ahead of names, in all orders in which they come; the last of each is Best, and Highest.
func TestSortedByEpoch(t *testing.T) {
	links := []api.Link{
		link(at(5), api.Point{Epoch: 6, Name: allOf(255)}), link(api.Point{Epoch: 6, Name: allOf(255)}, api.Point{Epoch: 7, Name: allOf(200)}),
		link(at(5), api.Point{Epoch: 7, Name: allOf(100)}), link(api.Point{Epoch: 7, Name: allOf(100)}, api.Point{Epoch: 8}), link(api.Point{Epoch: 7, Name: allOf(200)}, api.Point{Epoch: 1 << 60, Name: allOf(1)}),
	}
	inAllOrders(links, func(l []api.Link) {
		o := newPair(t, at(5))
		o.tell(l...)
		o.holdWhole(o.m.justified(), o.m.final())
		want := []api.Point{at(5), {Epoch: 6, Name: allOf(255)}, {Epoch: 7, Name: allOf(100)}, {Epoch: 7, Name: allOf(200)}, {Epoch: 8}, {Epoch: 1 << 60, Name: allOf(1)}}
		if got := o.g.AllJustified(); !slices.Equal(got, want) {
			t.Fatal(got)
		}
		if got := o.g.AllFinal(); !slices.Equal(got, want[:3]) {
			t.Fatal(got)
		}
		if o.g.Best() != want[2] || o.g.Highest() != want[5] {
			t.Fatal(o.g.Best(), o.g.Highest())
		}
	})
}

// P13.3: Best and Highest where epochs are the same, and names are not.
func TestLastByName(t *testing.T) {
	points := []api.Point{{Epoch: 6, Name: api.Hash{31: 1}}, {Epoch: 6, Name: api.Hash{31: 255}}, {Epoch: 6, Name: api.Hash{0: 1}}, {Epoch: 6, Name: api.Hash{0: 128}}}
	inAllOrders(points, func(l []api.Point) {
		o := newPair(t, at(5))
		highest := at(5)
		for _, p := range l {
			o.tell(link(at(5), p))
			if highest.Epoch == 5 || bytes.Compare(p.Name[:], highest.Name[:]) > 0 {
				highest = p
			}
			if o.g.Highest() != highest || o.g.Best() != at(5) {
				t.Fatal(o.g.Highest(), o.g.Best())
			}
		}
		best := at(5)
		for _, p := range l {
			o.tell(link(p, at(7)))
			if best.Epoch == 5 || bytes.Compare(p.Name[:], best.Name[:]) > 0 {
				best = p
			}
			if o.g.Best() != best || o.g.Highest() != at(7) {
				t.Fatal(o.g.Best(), o.g.Highest())
			}
		}
		o.hold()
	})
}

// P13.3: Links stand in the order in which they were told, also those of which nothing follows; what was refused is none of them.
func TestLinks(t *testing.T) {
	o := newPair(t, at(5))
	given := []api.Link{from(9, 10), from(5, 6), from(6, 7), from(0, 1), link(at(6), named(7, 0)), from(5, 7), link(at(5), named(6, 0)), from(4, 5), from(8, 9), from(7, 8)}
	for i, l := range given {
		o.tell(l)
		o.refuse(l, api.ErrExists)
		o.refuse(turned(l), api.ErrArg)
		o.refuse(given[0], api.ErrExists)
		if got := o.g.Links(); !slices.Equal(got, given[:i+1]) {
			t.Fatal(got)
		}
	}
}

// P13.2: what is asked of points that may not be, or that have the name alone, or the epoch alone, of one that is.
func TestAskedOfOthers(t *testing.T) {
	o := newPair(t, at(5))
	o.tell(from(5, 6), from(6, 7), from(9, 10))
	for _, p := range append(wrongPoints(), api.Point{}, at(0), at(4), at(8), at(9), at(10), named(5, 2), named(6, 2), named(7, 0), api.Point{Epoch: 6}, api.Point{Name: at(6).Name}) {
		if o.g.Justified(p) || o.g.Final(p) {
			t.Error(p)
		}
	}
	// To have been asked of them is nothing to what follows.
	o.tell(from(7, 8), from(8, 9))
	o.hold()
	// A gadget whose anchor is a point of noughts has it, and no other one does.
	zero := newPair(t, api.Point{})
	zero.hold()
	if !zero.g.Justified(api.Point{}) || !zero.g.Final(api.Point{}) {
		t.Error("the anchor of noughts")
	}
}
