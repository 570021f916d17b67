package state

import (
	"math"
	"testing"

	"landmark/api"
)

// P18.1: an accepted anchor: the state begins anew with it, without headers and votes; the clock stands where it stood.
func TestAnchor(t *testing.T) {
	o, l := staleOne(t)
	a := o.newAnchor(l[2], 10)
	if p, e := o.give(anchorInput(a)); p != (api.Point{}) || e != api.OK {
		t.Fatal(p, e)
	}
	o.hold()
	o.wantMode(api.ModeWell)
	o.wantFinal(l[2])
	o.wantJustified(l[2])
	if o.s.Clock() != 16 || o.s.Ends() != 17 || o.s.Chain().Len() != 0 || o.s.Pool().Len() != 0 || len(o.s.Gadget().Links()) != 0 || len(o.s.Evidence()) != 0 {
		t.Error("something is left of what was")
	}
	for _, p := range []api.Point{l[0], l[1], l[3]} {
		if _, e := o.s.Register(p.Name); e != api.ErrNone {
			t.Error("Register of what was:", e)
		}
	}
	// What was accepted ahead of it is news again.
	o.refuse(api.ErrParent, headerOf(l[0], 6), headerOf(l[1], 8))
	// The new checkpoint's own header is known by its name.
	o.refuse(api.ErrExists, headerOf(l[1], 7))
	o.refuse(api.ErrLink, voteOf(t, 1, l[1], l[2]), voteOf(t, 1, l[2], l[3]))
	eight := o.header(l[2], 8)
	nine := o.header(eight, 9)
	o.vote(l[2], eight, 1, 2, 3)
	o.vote(eight, nine, 1, 2, 3)
	o.wantFinal(eight)
	o.hold()
	o.refuse(api.ErrState, anchorInput(a))
	o.take(readingOf(18))
	o.wantMode(api.ModeStale)
	o.refuse(api.ErrLink, anchorInput(a))
	o.take(anchorInput(o.newAnchor(nine, 20)))
	o.hold()
}

// P18.1: the clock stands at the new anchor's epoch, if that is later; then no reading is told among the inputs.
func TestAnchorAhead(t *testing.T) {
	for _, epoch := range []uint64{16, 17, 18, 40} {
		o, l := staleOne(t)
		p := o.header(l[3], epoch)
		o.take(anchorInput(o.newAnchor(p, 5)))
		if o.s.Clock() != epoch || o.s.Ends() != epoch+5 || len(o.s.Inputs()) != 0 {
			t.Errorf("epoch %d: Clock %d, Ends %d, %v", epoch, o.s.Clock(), o.s.Ends(), kindsOf(o.s.Inputs()))
		}
		o.hold()
		o.refuse(api.ErrIdle, readingOf(epoch), readingOf(16))
		o.take(readingOf(epoch + 1))
		o.hold()
	}
}

// P18.1: an anchor is refused as long as the state is not stale, whatever else it is.
func TestAnchorState(t *testing.T) {
	o := newPair(t, four())
	l := o.line(o.m.anchor.Point, 6, 7)
	a := o.newAnchor(l[1], 100)
	o.refuse(api.ErrState, anchorInput(a), anchorInput(four()), anchorInput(api.Anchor{}))
	o.take(readingOf(15))
	o.refuse(api.ErrState, anchorInput(a), anchorInput(api.Anchor{}))
	o.take(readingOf(16))
	o.take(anchorInput(a))
	o.refuse(api.ErrState, anchorInput(a))
	o.hold()
}

// P18.1: an anchor that may not be.
func TestAnchorMayNot(t *testing.T) {
	o, l := staleOne(t)
	right := o.newAnchor(l[2], 50)
	for _, a := range append(wrongAnchors(right), api.Anchor{}) {
		o.refuse(api.ErrArg, anchorInput(a))
	}
	o.take(anchorInput(right))
	o.hold()
}

// P18.1: its checkpoint must be known, and be the final one, or descend from it: also from a justified one that is not final it need not, and other branches won't do.
func TestAnchorLink(t *testing.T) {
	right := func(o *pair, p api.Point) api.Input {
		a := four()
		a.Point, a.Decay = p, 400
		return anchorInput(a)
	}
	o, l := staleOne(t)
	x, y := o.header(l[0], 9), o.header(l[1], 9)
	final := l[1]
	o.refuse(api.ErrLink, right(o, l[0]), right(o, x), right(o, api.Point{}), right(o, api.Point{Epoch: 10, Name: allOf(3)}), right(o, api.Point{Epoch: 7, Name: allOf(3)}))
	for _, p := range []api.Point{l[1], l[2], l[3], y} {
		o.refuse(api.ErrLink,
			right(o, changed(p, func(p *api.Point) { p.Epoch++ })), right(o, changed(p, func(p *api.Point) { p.Epoch-- })),
			right(o, changed(p, func(p *api.Point) { p.Name[0] ^= 1 })), right(o, api.Point{Epoch: p.Epoch}))
	}
	for _, p := range []api.Point{final, l[2], l[3], y} {
		c := o.copied()
		c.take(right(c, p))
		c.hold()
		c.wantFinal(p)
	}
	// Of a state without votes the anchor's own checkpoint will do.
	c := newPair(t, four())
	c.take(readingOf(16))
	c.take(right(c, c.m.anchor.Point))
	c.hold()
}

// P18.1: the clock at, and above, where the new anchor's time ends.
func TestAnchorStale(t *testing.T) {
	for _, at := range []uint64{16, 17, 20, 1000} {
		o, l := staleOne(t)
		if at > 16 {
			o.take(readingOf(at))
		}
		for _, p := range l[1:] {
			o.refuse(api.ErrStale, anchorInput(o.newAnchor(p, 0)), anchorInput(o.newAnchor(p, at-p.Epoch-1)))
			for _, window := range []uint64{at - p.Epoch, at - p.Epoch + 1, 1 << 40} {
				c := o.copied()
				c.take(anchorInput(c.newAnchor(p, window)))
				c.wantMode(api.ModeWell)
				c.hold()
			}
		}
	}
	o, _ := staleOne(t)
	o.take(readingOf(math.MaxUint64))
	a := o.newAnchor(o.m.told, 1<<60)
	a.Churn, a.Decay = 1, 1<<62
	o.refuse(api.ErrStale, anchorInput(a))
}

// P18.1: of an anchor with more than one fault the first one is told, in the chapter's order.
func TestAnchorOrder(t *testing.T) {
	o := newPair(t, four())
	short := func(p api.Point) api.Anchor {
		a := four()
		a.Point, a.Decay = p, 0
		return a
	}
	unknown := api.Point{Epoch: 6, Name: allOf(9)}
	none := short(unknown)
	none.Churn = 0
	o.refuse(api.ErrState, anchorInput(none), anchorInput(short(unknown)), anchorInput(short(o.m.anchor.Point)))
	o.take(readingOf(16))
	o.refuse(api.ErrArg, anchorInput(none))
	o.refuse(api.ErrLink, anchorInput(short(unknown)))
	o.refuse(api.ErrStale, anchorInput(short(o.m.anchor.Point)))
	fault, a, _ := forked(t)
	right := fault.newAnchor(a[1], 100)
	fault.refuse(api.ErrFault, anchorInput(none), anchorInput(short(unknown)), anchorInput(short(fault.m.anchor.Point)), anchorInput(right))
	fault.take(readingOf(16))
	fault.refuse(api.ErrFault, anchorInput(none), anchorInput(short(unknown)), anchorInput(short(fault.m.anchor.Point)), anchorInput(right))
	fault.hold()
}

// P18.1: an anchor is taken as it is, whoever its validators are: those of the header's register, or others.
func TestAnchorOthers(t *testing.T) {
	o, l := staleOne(t)
	a := anchorOf(3, 300, 5, 5)
	a.Point = l[3]
	a.Validators[0].Key, a.Validators[1].Key = rootAt(8), rootAt(9)
	o.take(anchorInput(a))
	nine := o.header(l[3], 9)
	o.take(voteBy(t, keyAt(8), 1, l[3], nine))
	o.refuse(api.ErrSig, voteOf(t, 2, l[3], nine))
	o.refuse(api.ErrIdle, voteOf(t, 3, l[3], nine))
	o.take(voteBy(t, keyAt(9), 2, l[3], nine))
	o.wantJustified(l[3], nine)
	o.hold()
}

// P18.4: what a refused anchor brings is not taken: the clock, the end, the final one stay.
func TestAnchorRefusedApart(t *testing.T) {
	o, l := staleOne(t)
	ahead := o.s.Copy()
	wrong := o.newAnchor(l[0], 100)
	for range 3 {
		if e := o.s.Check(anchorInput(wrong)); e != api.ErrLink {
			t.Error(e)
		}
		// To look at one that would be accepted changes nothing, too.
		if e := o.s.Check(anchorInput(o.newAnchor(l[2], 100))); e != api.OK {
			t.Error(e)
		}
	}
	if !isSame(t, ahead, o.s) {
		t.Error("Check has changed something")
	}
	o.hold()
}
