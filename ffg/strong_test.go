package ffg

import (
	"math/rand/v2"
	"slices"
	"testing"

	"landmark/api"
)

// P13.2, P13.3: the chapter's example.
func TestExample(t *testing.T) {
	g, e := New(at(5))
	if e != api.OK {
		t.Fatal(e)
	}
	if e := g.Strong(from(7, 8)); e != api.OK {
		t.Fatal(e)
	}
	if l := g.AllJustified(); !slices.Equal(l, []api.Point{at(5)}) {
		t.Error("ahead of 5 to 7:", l)
	}
	if e := g.Strong(from(5, 7)); e != api.OK {
		t.Fatal(e)
	}
	if l := g.AllJustified(); !slices.Equal(l, []api.Point{at(5), at(7), at(8)}) {
		t.Error("justified:", l)
	}
	if l := g.AllFinal(); !slices.Equal(l, []api.Point{at(5), at(7)}) {
		t.Error("final:", l)
	}
	for epoch := range uint64(10) {
		if g.Justified(at(epoch)) != (epoch == 5 || epoch == 7 || epoch == 8) || g.Final(at(epoch)) != (epoch == 5 || epoch == 7) {
			t.Error("at", epoch)
		}
	}
	if g.Best() != at(7) || g.Highest() != at(8) || !slices.Equal(g.Links(), []api.Link{from(7, 8), from(5, 7)}) {
		t.Error(g.Best(), g.Highest(), g.Links())
	}
}

// P13.1: New of each checkpoint that may be is without links, and each gadget is its own.
func TestNew(t *testing.T) {
	for _, anchor := range []api.Point{{}, at(0), at(1), at(5), at(1 << 61), at(mostEpoch - 1), at(mostEpoch), {Epoch: mostEpoch}, {Epoch: 3, Name: allOf(255)}} {
		one, two := newPair(t, anchor), newPair(t, anchor)
		one.hold()
		if len(one.g.Links()) != 0 || !slices.Equal(one.g.AllJustified(), []api.Point{anchor}) || !slices.Equal(one.g.AllFinal(), []api.Point{anchor}) {
			t.Error("New of", anchor)
		}
		if anchor.Epoch < mostEpoch {
			one.tell(link(anchor, at(anchor.Epoch+1)))
			one.hold()
		}
		two.hold()
	}
}

// P13.1: New of a checkpoint that may not be.
func TestNewWrong(t *testing.T) {
	for _, anchor := range wrongPoints() {
		if g, e := New(anchor); g != nil || e != api.ErrArg {
			t.Errorf("New of %v: %v, %v", anchor, g, e)
		}
	}
}

// P13.2: links that may not be, for each reason, at a gadget without links and at one that has some.
func TestStrongWrong(t *testing.T) {
	o := newPair(t, at(5))
	for _, given := range []api.Link{from(5, 7), from(6, 7), from(7, 9), from(0, mostEpoch)} {
		for _, l := range wrongLinks() {
			if e := o.give(l); e != api.ErrArg {
				t.Fatalf("%v: %v", l, e)
			}
		}
		o.hold()
		o.tell(given)
	}
}

// P13.2: links at the edges of what may be.
func TestStrongRight(t *testing.T) {
	o := newPair(t, at(5))
	for i, epochs := range [][2]uint64{{0, 1}, {0, mostEpoch}, {5, 6}, {5, mostEpoch}, {mostEpoch - 1, mostEpoch}, {5, mostEpoch - 1}, {4, 5}, {1<<32 - 1, 1 << 32}} {
		o.tell(link(at(epochs[0]), at(epochs[1])), link(at(epochs[0]), named(epochs[1], 2)), link(named(epochs[0], 2), at(epochs[1])))
		o.tell(link(api.Point{Epoch: epochs[0]}, api.Point{Epoch: epochs[1], Name: allOf(byte(i))}), link(api.Point{Epoch: epochs[0], Name: allOf(255)}, api.Point{Epoch: epochs[1]}))
		o.hold()
	}
	if !o.g.Final(at(mostEpoch - 1)) {
		t.Error("the last but one epoch")
	}
}

// P13.2: a link that was told already: at once, and behind others, whether its source is justified, or becomes so, or never is.
func TestStrongExists(t *testing.T) {
	o := newPair(t, at(5))
	given := []api.Link{from(7, 8), from(5, 7), from(5, 6), from(6, 7), from(9, 10), link(at(5), named(7, 2)), link(named(5, 2), at(7)), from(8, 9), from(4, 5)}
	for i, l := range given {
		for _, later := range given[i:] {
			if e := o.m.judge(later); e != api.OK {
				t.Fatal(later, e)
			}
		}
		o.tell(l)
		for _, told := range given[:i+1] {
			o.refuse(told, api.ErrExists)
			o.refuse(turned(told), api.ErrArg)
		}
	}
	// Those that have an end of one that was told, or are like one but for one thing, were not.
	told := from(6, 7)
	for _, change := range pointChanges {
		for _, l := range []api.Link{changed(told, func(l *api.Link) { change(&l.Source) }), changed(told, func(l *api.Link) { change(&l.Target) })} {
			if o.give(l) == api.OK {
				o.refuse(l, api.ErrExists)
			}
		}
		o.hold()
	}
}

// P13.2: of two that could be told the one that the chapter names first: nil ahead of what may not be, ahead of what was told.
func TestStrongTwoErrors(t *testing.T) {
	var none *Gadget
	for _, g := range []*Gadget{none, {}} {
		for _, l := range append(wrongLinks(), from(5, 6), api.Link{}) {
			for range 2 {
				if e := g.Strong(l); e != api.ErrNil {
					t.Error(l, e)
				}
			}
		}
	}
	o := newPair(t, at(5))
	o.tell(from(5, 6))
	for _, l := range append(wrongLinks(), api.Link{}) {
		for range 2 {
			if e := o.give(l); e != api.ErrArg {
				t.Error(l, e)
			}
		}
	}
	o.hold()
}

// P13.2: final is who has a link to the next epoch, not to the one behind that, nor to its own.
func TestNextEpoch(t *testing.T) {
	for _, gap := range []uint64{1, 2, 3, 1<<8 + 1, 1<<16 + 1, 1 << 32, 1<<32 + 1, 1 << 61, 1<<61 + 1} {
		o := newPair(t, at(5))
		o.tell(from(5, 9))
		o.hold()
		o.tell(link(at(9), named(9+gap, 2)))
		o.hold()
		if o.g.Final(at(9)) != (gap == 1) || !o.g.Justified(named(9+gap, 2)) || o.g.Final(named(9+gap, 2)) {
			t.Error("gap", gap)
		}
		// A second link, to the next epoch; where there was one already, it is another name's.
		o.tell(link(at(9), named(10, 3)))
		o.hold()
		if !o.g.Final(at(9)) {
			t.Error("gap", gap, "and 1")
		}
	}
}

// P13.2: a link to the next epoch makes nobody final whose own place no link has justified, though its target is; it does once that comes.
func TestFinalLater(t *testing.T) {
	o := newPair(t, at(5))
	o.tell(from(7, 8))
	o.hold()
	o.tell(from(5, 8))
	o.hold()
	if o.g.Final(at(7)) || o.g.Justified(at(7)) || !o.g.Justified(at(8)) {
		t.Error("7 is not justified")
	}
	o.tell(from(5, 7))
	o.hold()
	if !o.g.Final(at(7)) || o.g.Final(at(8)) {
		t.Error("7 is final")
	}
	// Of a target that is justified long since, by others.
	o.tell(from(5, 10), from(5, 11))
	o.hold()
	if o.g.Final(at(10)) {
		t.Error("10 is not final")
	}
	o.tell(from(10, 11))
	o.hold()
	if !o.g.Final(at(10)) || o.g.Final(at(11)) {
		t.Error("10 is final")
	}
}

// P13.2, P13.3: the anchor is both always, whatever links come to it, or go from it.
func TestAnchor(t *testing.T) {
	o := newPair(t, at(5))
	for _, l := range []api.Link{from(4, 5), from(3, 4), from(0, 5), link(named(4, 2), at(5)), link(at(4), named(5, 2)), link(named(5, 2), at(6)), from(5, 7), from(5, 6)} {
		o.tell(l)
		o.hold()
		if !o.g.Justified(at(5)) || !o.g.Final(at(5)) || o.g.AllJustified()[0] != at(5) || o.g.AllFinal()[0] != at(5) {
			t.Error("the anchor behind", l)
		}
		if o.g.Justified(at(4)) || o.g.Justified(named(5, 2)) {
			t.Error("ahead of the anchor")
		}
	}
	if o.g.Best() != at(5) || o.g.Highest() != at(7) {
		t.Error(o.g.Best(), o.g.Highest())
	}
}

// P13.2: links whose source is never justified: justified ones' targets by others, of the anchor's epoch and below, and far above.
func TestNeverJustified(t *testing.T) {
	o := newPair(t, at(5))
	o.tell(from(5, 6), from(6, 8))
	for _, source := range []api.Point{at(0), at(4), named(5, 2), named(6, 2), at(7), named(8, 2), {Epoch: 5}, {Epoch: 6}, at(mostEpoch - 1)} {
		o.tell(link(source, at(source.Epoch+1)), link(source, named(source.Epoch+1, 3)))
		o.hold()
	}
	if !slices.Equal(o.g.AllJustified(), []api.Point{at(5), at(6), at(8)}) || !slices.Equal(o.g.AllFinal(), []api.Point{at(5)}) {
		t.Error(o.g.AllJustified(), o.g.AllFinal())
	}
}

// P13.2: links by chance, with all looks behind each of them.
func TestStrongByChance(t *testing.T) {
	for seed := range uint64(30) {
		source := rand.New(rand.NewPCG(13, seed))
		o, codes := newPair(t, at(5)), map[api.Errno]int{}
		for range 50 {
			codes[o.give(some(source))]++
			if source.IntN(4) == 0 {
				o.hold()
			}
		}
		o.hold()
		if codes[api.OK] < 12 || codes[api.ErrExists] < 1 || codes[api.ErrArg] < 2 {
			t.Errorf("of seed %d: %v", seed, codes)
		}
	}
}
