package state

import (
	"slices"
	"testing"

	"landmark/api"
)

// P18.1: a link is strong by one vote, and not by one fewer: of stakes, in the order in which they vote, so many are needed.
func TestStrongAt(t *testing.T) {
	const most = 1 << 32
	for _, given := range []struct {
		stakes []uint64
		need   int
	}{
		{[]uint64{1}, 1}, {[]uint64{1, 1}, 2}, {[]uint64{1, 1, 1}, 2}, {[]uint64{1, 1, 1, 1}, 3}, {[]uint64{1, 1, 1, 1, 1}, 4}, {[]uint64{1, 1, 1, 1, 1, 1}, 4},
		{[]uint64{2, 1}, 1}, {[]uint64{1, 2}, 2}, {[]uint64{199, 101}, 2}, {[]uint64{200, 100}, 1}, {[]uint64{201, 100}, 1}, {[]uint64{200, 101}, 2}, {[]uint64{1, 1, 4}, 3}, {[]uint64{4, 1, 1}, 1},
		{[]uint64{most, most, most}, 2}, {[]uint64{most, most - 1, most}, 3}, {[]uint64{most, most, most - 1}, 2}, {[]uint64{most, 1}, 1}, {[]uint64{1, most}, 2},
		{[]uint64{3, 5, 7, 11}, 4}, {[]uint64{11, 7, 5, 3}, 2}, {[]uint64{5, 7, 6, 8}, 3},
	} {
		o := newPair(t, anchorOf(1, 20, given.stakes...))
		l := o.line(o.m.anchor.Point, 6, 7)
		for n := range given.stakes {
			o.vote(l[0], l[1], n+1)
			isStrong := n+1 >= given.need
			if got := len(o.s.Justified()) == 2; got != isStrong || len(o.s.Gadget().Links()) > 0 != isStrong {
				t.Errorf("%v: justified by %d: %v", given.stakes, n+1, got)
			}
			o.holdLooks()
		}
		o.hold()
	}
}

// P18.1: of the total of the target's register: where it differs along the branch, the same votes are strong of one link, and not of another one.
func TestStrongOfTarget(t *testing.T) {
	o := newPair(t, anchorOf(3, 90, 1, 1, 1, 1))
	root := o.m.anchor.Point
	six := o.header(root, 6, deposit(5, 3))
	seven := o.header(six, 7)
	// 3 of 4 are strong at 6, where 5 comes; at 7 it is active, and 3 of 7 are not, nor 4; 6 of 7 are.
	o.vote(root, six, 1, 2, 3)
	o.wantJustified(root, six)
	o.vote(six, seven, 1, 2, 3, 4)
	o.wantJustified(root, six)
	o.wantFinal(root)
	o.vote(six, seven, 5)
	o.wantFinal(six)
	o.hold()
	// On another branch two go: they count till they are gone.
	other := newPair(t, anchorOf(1, 30, 1, 1, 1, 1))
	six = other.header(root, 6, exit(4))
	seven = other.header(six, 7)
	other.vote(root, six, 1, 2)
	other.wantJustified(root)
	other.vote(six, seven, 1, 2)
	other.wantJustified(root)
	other.vote(root, six, 4)
	other.wantFinal(six)
	other.hold()
}

// P18.1: a vote weighs what its validator weighs in the target's register, also where its number is somebody else on another branch.
func TestWeighs(t *testing.T) {
	o := newPair(t, anchorOf(10, 300, 5))
	root := o.m.anchor.Point
	a := o.header(o.header(root, 6, deposit(2, 10)), 7)
	b := o.header(o.header(root, 6, deposit(3, 9)), 7)
	o.vote(root, a, 2)
	o.wantJustified(root, a)
	o.vote(root, b, 2)
	o.wantJustified(root, a)
	o.vote(root, b, 1)
	if l := o.s.Justified(); len(l) != 3 {
		t.Error(l)
	}
	o.hold()
}

// P18.1: votes of a link beyond the one that made it strong change nothing of what is final; nor do those of links whose source is not justified.
func TestStrongAgain(t *testing.T) {
	o := newPair(t, four())
	l := o.line(o.m.anchor.Point, 6, 7, 8, 9)
	o.vote(l[0], l[1], 1, 2, 3, 4)
	o.wantFinal(l[0])
	o.vote(l[2], l[3], 1, 2, 3, 4)
	o.vote(l[3], l[4], 1, 2, 3)
	o.wantFinal(l[0])
	o.wantJustified(l[0], l[1])
	// From 6 to 8 nothing becomes final of 6, but all that waited at 8.
	o.vote(l[1], l[3], 1, 2, 3)
	o.wantFinal(l[3])
	o.wantJustified(l[0], l[1], l[3], l[4])
	o.vote(l[1], l[2], 1, 2, 3)
	o.wantFinal(l[3])
	o.wantJustified(l...)
	if !slices.Equal(o.s.Gadget().AllFinal(), []api.Point{l[0], l[1], l[2], l[3]}) {
		t.Error(o.s.Gadget().AllFinal())
	}
	o.hold()
}

// P18.1: a source that is justified already becomes final by a later link of it to the next epoch.
func TestFinalLater(t *testing.T) {
	o := newPair(t, four())
	l := o.line(o.m.anchor.Point, 6, 7)
	o.vote(l[0], l[1], 1, 2, 3)
	o.vote(l[0], l[2], 1, 2, 3)
	o.wantJustified(l...)
	o.wantFinal(l[0])
	o.vote(l[1], l[2], 1, 2)
	o.wantFinal(l[0])
	o.vote(l[1], l[2], 3)
	o.wantFinal(l[1])
	o.hold()
}

// P18.1: two final ones that clash: the state is at fault from then on, its final one stays, and headers, votes and anchors are refused.
func TestFault(t *testing.T) {
	o := newPair(t, four())
	root := o.m.anchor.Point
	a, b := o.line(root, 6, 7, 8), o.line(root, 10, 11, 12)
	o.vote(root, a[1], 1, 2, 3)
	o.vote(a[1], a[2], 1, 2, 3)
	o.vote(a[2], a[3], 1, 2)
	o.wantFinal(a[1])
	o.vote(root, b[1], 2, 3, 4)
	o.vote(b[1], b[2], 2, 3)
	o.wantMode(api.ModeWell)
	o.wantFinal(a[1])
	o.vote(b[1], b[2], 4)
	o.wantMode(api.ModeFault)
	// The later one would be Best: it is not told.
	o.wantFinal(a[1])
	if o.s.Gadget().Best() != b[1] {
		t.Error(o.s.Gadget().Best())
	}
	o.refuse(api.ErrFault, headerOf(a[3], 9), headerOf(b[3], 13), voteOf(t, 3, a[2], a[3]), voteOf(t, 4, root, a[1]), voteOf(t, 1, a[3], a[3]), anchorInput(four()))
	if l := o.s.Evidence(); len(l) != 2 {
		t.Error("evidence:", len(l))
	}
	o.take(readingOf(16))
	o.refuse(api.ErrFault, headerOf(a[3], 9), voteOf(t, 3, a[2], a[3]), anchorInput(o.newAnchor(a[1], 100)), anchorInput(o.newAnchor(b[1], 100)))
	o.wantMode(api.ModeFault)
	o.wantFinal(a[1])
	o.hold()
}

// P18.1: two that become final by one vote, and clash, as links waited: the final one stays where it stood, also where neither of them clashes with that.
func TestFaultAtOnce(t *testing.T) {
	o := newPair(t, four())
	l := o.line(o.m.anchor.Point, 6, 7)
	a, b := o.line(l[1], 8, 9), o.line(l[1], 10, 11)
	o.vote(l[1], a[1], 1, 2, 3)
	o.vote(a[1], a[2], 1, 2, 3)
	o.vote(l[1], b[1], 2, 3, 4)
	o.vote(b[1], b[2], 2, 3, 4)
	o.wantJustified(l[0])
	o.wantMode(api.ModeWell)
	o.vote(l[0], l[1], 1, 4)
	o.wantMode(api.ModeWell)
	o.vote(l[0], l[1], 3)
	o.wantMode(api.ModeFault)
	o.wantFinal(l[0])
	if len(o.s.Justified()) != 6 || len(o.s.Gadget().AllFinal()) != 3 {
		t.Error(o.s.Gadget().AllFinal())
	}
	o.refuse(api.ErrFault, voteOf(t, 2, l[0], l[1]), headerOf(l[2], 8))
	o.hold()
}

// P18.1: justified ones of two branches are no fault, as long as no two final ones clash; a final one of less epoch than one of another branch that is justified alone is none, too.
func TestNoFault(t *testing.T) {
	o := newPair(t, four())
	root := o.m.anchor.Point
	a, b := o.line(root, 6, 7), o.line(root, 10, 11)
	o.vote(root, b[1], 1, 2, 3)
	o.vote(root, b[2], 1, 2, 3)
	o.vote(root, a[1], 2, 3, 4)
	o.vote(a[1], a[2], 2, 3, 4)
	o.wantMode(api.ModeWell)
	o.wantFinal(a[1])
	o.vote(b[1], b[2], 1, 2)
	o.wantMode(api.ModeWell)
	o.hold()
	// A final one that lies between others of one branch is none.
	c := newPair(t, four())
	l := c.line(root, 6, 7, 8, 9)
	c.vote(l[0], l[3], 1, 2, 3)
	c.vote(l[3], l[4], 1, 2, 3)
	c.wantFinal(l[3])
	c.vote(l[0], l[1], 1, 2, 3)
	c.vote(l[1], l[2], 1, 2, 3)
	c.wantFinal(l[3])
	c.wantMode(api.ModeWell)
	c.hold()
}

// P18.2: at fault and stale: Mode is ModeFault, and FinalPoint tells the final one.
func TestFaultAndStale(t *testing.T) {
	o, a, _ := forked(t)
	for _, reading := range []uint64{15, 16, 1 << 63} {
		o.take(readingOf(reading))
		o.wantMode(api.ModeFault)
		o.wantFinal(a[1])
		o.hold()
	}
}

// The document's fifth example: one votes on two branches; a header marks it, and it goes.
func TestVotedTwice(t *testing.T) {
	o := newPair(t, four())
	root := o.m.anchor.Point
	a, b := o.header(root, 6), o.header(root, 7)
	six := o.header(root, 6, deposit(5, 1))
	o.vote(root, a, 1, 2)
	o.vote(root, six, 2, 1)
	l := o.s.Evidence()
	if len(l) != 2 || l[0].Key != rootAt(1) || l[1].Key != rootAt(2) {
		t.Fatal("evidence:", len(l))
	}
	p := o.header(b, 8, api.HeaderOp{Kind: api.OpSlash, Validator: 1, Evidence: []api.Vote{l[0].A, l[0].B}})
	if m := o.memberOf(p, 1); !m.Marked || m.Status != api.MemberGoing {
		t.Error(m)
	}
	if m := o.memberOf(o.header(p, 9), 1); !m.Marked || m.Status != api.MemberGone {
		t.Error(m)
	}
	o.hold()
}
