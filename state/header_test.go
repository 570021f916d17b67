package state

import (
	"math"
	"testing"

	"landmark/api"
	"landmark/codec"
)

// P18.1: a header that is accepted answers its checkpoint, and is there.
func TestHeader(t *testing.T) {
	o := newPair(t, four())
	for _, epoch := range []uint64{6, 7, 100, 1 << 40, mostEpoch} {
		i := headerOf(o.m.anchor.Point, epoch)
		name, _ := codec.Name(i.Header)
		if p := o.take(i); p != (api.Point{Epoch: epoch, Name: name}) {
			t.Errorf("epoch %d: %v", epoch, p)
		}
		o.hold()
	}
	l := o.line(o.m.anchor.Point, 8, 9, 20, 21)
	o.line(l[2], 10, 11)
	o.hold()
	o.wantFinal(o.m.anchor.Point)
}

// P18.1: each reason of the chain's why a header is refused.
func TestHeaderRefused(t *testing.T) {
	o := newPair(t, four())
	l := o.line(o.m.anchor.Point, 6, 9)
	var many []api.HeaderOp
	for n := range 17 {
		many = append(many, deposit(10+n, 1))
	}
	o.refuse(api.ErrArg,
		headerOf(l[1], 0), headerOf(l[1], mostEpoch+1), headerOf(l[1], math.MaxUint64),
		headerOf(l[1], 9, many...), headerOf(l[1], 9, api.HeaderOp{}), headerOf(l[1], 9, api.HeaderOp{Kind: 4}),
		headerOf(l[1], 9, deposit(9, 0)), headerOf(l[1], 9, deposit(9, 1<<32+1)), headerOf(l[1], 9, exit(0)), headerOf(l[1], 9, exit(65)),
		headerOf(l[1], 9, api.HeaderOp{Kind: api.OpSlash, Validator: 1}),
		headerOf(l[1], 9, api.HeaderOp{Kind: api.OpSlash, Validator: 1, Evidence: make([]api.Vote, 2)}),
		headerOf(l[1], 9, api.HeaderOp{Kind: api.OpExit, Validator: 1, Stake: 1}),
	)
	o.refuse(api.ErrExists, headerOf(l[0], 6), headerOf(l[1], 9))
	o.refuse(api.ErrParent, headerOf(api.Point{}, 7), headerOf(api.Point{Name: allOf(9)}, 10), headerOf(api.Point{Name: api.Hash{0: 7, 31: 2}}, 1))
	o.refuse(api.ErrEpoch, headerOf(l[2], 9), headerOf(l[2], 8), headerOf(l[2], 1), headerOf(l[1], 5), headerOf(l[0], 5), headerOf(l[0], 1))
	o.header(l[2], 10)
	o.hold()
}

// P18.1: of a header with more than one fault the first one is told, in the chapter's order.
func TestHeaderOrder(t *testing.T) {
	o := newPair(t, four())
	l := o.line(o.m.anchor.Point, 6, 9)
	a, b := voteOf(t, 1, l[0], l[1]), voteOf(t, 1, l[1], l[2])
	none, unlike := slashOf(1, a, b), slashOf(9, a, b)
	o.refuse(api.ErrArg, headerOf(api.Point{Name: allOf(9)}, 0), headerOf(l[2], 0, exit(9)), headerOf(api.Point{Name: allOf(9)}, 9, exit(0)), headerOf(l[2], 9, exit(0)))
	o.refuse(api.ErrParent, headerOf(api.Point{Name: allOf(9)}, 1, exit(9)), headerOf(api.Point{Name: allOf(9)}, 10, none))
	o.refuse(api.ErrEpoch, headerOf(l[2], 9, exit(9)), headerOf(l[2], 9, none), headerOf(l[2], 1, deposit(1, 1)))
	o.refuse(api.ErrOp, headerOf(l[2], 10, none), headerOf(l[2], 10, exit(9)), headerOf(l[2], 10, unlike), headerOf(l[2], 10, exit(1), none))
	fault, x, _ := forked(t)
	fault.refuse(api.ErrFault,
		headerOf(x[2], 8), headerOf(x[2], 0), headerOf(x[0], 6), headerOf(api.Point{Name: allOf(9)}, 10), headerOf(x[2], 7), headerOf(x[2], 8, exit(9)), headerOf(x[2], 8, none))
}

// P18.1: beyond the anchor's time headers are accepted, and refused, as ever.
func TestHeaderStale(t *testing.T) {
	o, l := staleOne(t)
	p := o.header(l[3], 9, exit(1))
	o.refuse(api.ErrExists, headerOf(l[0], 6))
	o.refuse(api.ErrOp, headerOf(p, 10, exit(1)))
	o.refuse(api.ErrArg, headerOf(p, 0))
	o.header(p, 17)
	o.header(p, 1000)
	o.hold()
}

// P18.1: operations are held against the parent's register, which on another branch is another one.
func TestHeaderOps(t *testing.T) {
	o := newPair(t, anchorOf(10, 200, 10, 10, 10, 10))
	root := o.m.anchor.Point
	gone := o.header(root, 6, exit(2))
	came := o.header(root, 6, deposit(5, 7))
	plain := o.header(root, 6)
	o.refuse(api.ErrOp, headerOf(gone, 7, exit(2)), headerOf(gone, 8, exit(2)), headerOf(gone, 7, deposit(2, 1)))
	o.refuse(api.ErrOp, headerOf(came, 7, deposit(5, 7)), headerOf(came, 7, deposit(1, 1)), headerOf(came, 7, deposit(6, 11)), headerOf(came, 7, exit(6)))
	o.refuse(api.ErrOp, headerOf(plain, 7, exit(5)), headerOf(plain, 7, exit(1), exit(1)), headerOf(plain, 7, exit(1), exit(2), exit(3), exit(4)))
	// What one branch refuses the other ones accept.
	o.header(came, 7, exit(2))
	o.header(plain, 7, exit(2), deposit(5, 7))
	five := o.header(came, 7, exit(5))
	o.header(gone, 7, deposit(5, 7), exit(1))
	if s := o.memberOf(five, 5).Status; s != api.MemberGoing {
		t.Error("5:", s)
	}
	o.refuse(api.ErrOp, headerOf(root, 7, exit(5)), headerOf(root, 7, deposit(5, 7), exit(5)))
	o.hold()
}

// P18.1: the epochs between a header and its parent count: behind more of them more may come.
func TestHeaderTurn(t *testing.T) {
	o := newPair(t, anchorOf(2, 200, 10))
	up := o.header(o.m.anchor.Point, 10, deposit(2, 2), deposit(3, 2), deposit(4, 2))
	for n, epoch := range []uint64{11, 12, 13, 14} {
		p := o.header(up, epoch)
		for i := range 3 {
			want := api.MemberComing
			if i <= n {
				want = api.MemberActive
			}
			if s := o.memberOf(p, i+2).Status; s != want {
				t.Errorf("epoch %d, member %d: %v", epoch, i+2, s)
			}
		}
	}
	o.hold()
}

// P18.1: of a register that is full a deposit is refused, ahead of evidence that is none, and behind an operation ahead of it.
func TestHeaderFullRegister(t *testing.T) {
	stakes := make([]uint64, 63)
	for i := range stakes {
		stakes[i] = 1
	}
	o := newPair(t, anchorOf(5, 200, stakes...))
	root := o.m.anchor.Point
	full := o.header(root, 6, deposit(64, 1))
	p := o.header(full, 7)
	none := slashOf(1, voteOf(t, 1, root, full), voteOf(t, 1, full, p))
	o.refuse(api.ErrFull, headerOf(full, 7, deposit(65, 1)), headerOf(root, 6, deposit(64, 1), deposit(65, 1)), headerOf(full, 7, none, deposit(65, 1)))
	o.refuse(api.ErrOp, headerOf(full, 7, deposit(64, 1)), headerOf(full, 7, exit(1), exit(1), deposit(65, 1)), headerOf(full, 7, deposit(65, 6)), headerOf(root, 6, none, deposit(64, 1)))
	o.header(full, 8)
	o.header(root, 6, deposit(65, 1))
	o.hold()
}

// breaking are two votes of a key, as the validator n, that break a rule: of two branches of one epoch.
func breaking(t *testing.T, k, n int, source, one, other api.Point) (api.Input, api.Input) {
	t.Helper()
	return voteBy(t, keyAt(k), n, source, one), voteBy(t, keyAt(k), n, source, other)
}

// P18.1: of an OpSlash whose evidence is evidence of the member's key, the header is accepted, and the member marked, and goes.
func TestHeaderSlash(t *testing.T) {
	o := newPair(t, four())
	root := o.m.anchor.Point
	l := o.line(root, 6, 7, 8)
	x := o.header(root, 7)
	a, b := breaking(t, 2, 2, root, l[2], x)
	for n, op := range []api.HeaderOp{
		slashOf(2, a, b), slashOf(2, b, a),
		// One goes round the other one.
		slashOf(2, voteOf(t, 2, l[0], l[3]), voteOf(t, 2, l[1], l[2])), slashOf(2, voteOf(t, 2, l[1], l[2]), voteOf(t, 2, l[0], l[3])),
		// By whatever numbers the key voted, and of whatever points.
		slashOf(2, voteBy(t, keyAt(2), 3, root, l[2]), voteBy(t, keyAt(2), 64, root, x)),
		slashOf(2, voteOf(t, 2, api.Point{Epoch: 1000, Name: allOf(1)}, api.Point{Epoch: 2000, Name: allOf(2)}), voteOf(t, 2, api.Point{Epoch: 7}, api.Point{Epoch: 2000, Name: allOf(3)})),
		slashOf(2, voteOf(t, 2, api.Point{Epoch: 9}, api.Point{Epoch: 3}), voteOf(t, 2, api.Point{Epoch: 10}, api.Point{Epoch: 3})),
	} {
		p := o.header(l[2], 8+uint64(n), op)
		if m := o.memberOf(p, 2); !m.Marked || m.Status != api.MemberGoing {
			t.Errorf("header %d: %v", n, m)
		}
		o.refuse(api.ErrOp, headerOf(p, 100, op))
	}
	if m := o.memberOf(l[3], 2); m.Marked {
		t.Error("another branch's member is marked")
	}
	o.hold()
}

// P18.1: evidence that is none: of no rule that is broken, of another key than the member's, with a signature that is none; of a member that there is not, or who does not vote.
func TestHeaderNoEvidence(t *testing.T) {
	o := newPair(t, four())
	root := o.m.anchor.Point
	l := o.line(root, 6, 7)
	x := o.header(root, 7)
	a, b := breaking(t, 2, 2, root, l[2], x)
	turned := func(i api.Input, change func(*api.Vote)) api.Input {
		i = cloneInput(i)
		change(&i.Vote)
		return i
	}
	wrong := func(v *api.Vote) { v.Sig[700] ^= 1 }
	o.refuse(api.ErrOp,
		headerOf(l[2], 8, slashOf(2, a, a)), headerOf(l[2], 8, slashOf(2, b, b)),
		headerOf(l[2], 8, slashOf(2, voteOf(t, 2, root, l[1]), voteOf(t, 2, l[1], l[2]))),
		headerOf(l[2], 8, slashOf(1, a, b)), headerOf(l[2], 8, slashOf(3, a, b)), headerOf(l[2], 8, slashOf(4, a, b)),
		headerOf(l[2], 8, slashOf(5, a, b)), headerOf(l[2], 8, slashOf(64, a, b)),
		headerOf(l[2], 8, slashOf(2, turned(a, wrong), b)), headerOf(l[2], 8, slashOf(2, a, turned(b, wrong))),
		headerOf(l[2], 8, slashOf(2, turned(a, func(v *api.Vote) { v.Sig = nil }), b)), headerOf(l[2], 8, slashOf(2, a, turned(b, func(v *api.Vote) { v.Sig = v.Sig[:1215] }))),
		headerOf(l[2], 8, slashOf(2, turned(a, func(v *api.Vote) { v.Validator = 3 }), b)), headerOf(l[2], 8, slashOf(2, a, turned(b, func(v *api.Vote) { v.Source.Epoch = 4 }))),
		headerOf(l[2], 8, slashOf(2, a, voteOf(t, 3, root, x))), headerOf(l[2], 8, slashOf(2, voteBy(t, keyAt(3), 2, root, l[2]), b)),
	)
	// Of several each is held, whichever it is, and whatever stands around it.
	c, d := breaking(t, 3, 3, root, l[2], x)
	o.refuse(api.ErrOp,
		headerOf(l[2], 8, slashOf(2, a, b), slashOf(3, c, c)), headerOf(l[2], 8, slashOf(2, a, a), slashOf(3, c, d)), headerOf(l[2], 8, slashOf(2, a, b), slashOf(3, a, b)),
		headerOf(l[2], 8, exit(1), slashOf(2, a, a)), headerOf(l[2], 8, slashOf(2, a, a), exit(1)), headerOf(l[2], 8, slashOf(2, a, b), slashOf(2, a, b)),
		headerOf(l[2], 8, deposit(5, 1), slashOf(5, a, b)),
	)
	p := o.header(l[2], 8, exit(1), slashOf(2, a, b), slashOf(3, c, d))
	if !o.memberOf(p, 2).Marked || !o.memberOf(p, 3).Marked || o.memberOf(p, 1).Marked {
		t.Error("others are marked")
	}
	o.hold()
}

// P18.1: the key is the member's, as the parent's register has it: the number 5 is somebody else on another branch, and nobody on a third one.
func TestHeaderSlashBranch(t *testing.T) {
	o := newPair(t, four())
	root := o.m.anchor.Point
	six := o.header(root, 6, deposit(5, 1))
	seven := o.header(root, 6, deposit(6, 1))
	eight := o.header(root, 6)
	far, near := api.Point{Epoch: 50, Name: allOf(1)}, api.Point{Epoch: 50, Name: allOf(2)}
	a, b := breaking(t, 5, 5, root, far, near)
	c, d := breaking(t, 6, 5, root, far, near)
	o.refuse(api.ErrOp, headerOf(six, 7, slashOf(5, c, d)), headerOf(seven, 7, slashOf(5, a, b)), headerOf(eight, 7, slashOf(5, a, b)), headerOf(eight, 7, deposit(5, 1), slashOf(5, a, b)))
	// It comes as the parent has it, and is active when the header is there.
	for _, p := range []api.Point{o.header(six, 7, slashOf(5, a, b)), o.header(seven, 7, slashOf(5, c, d))} {
		if m := o.memberOf(p, 5); !m.Marked || m.Status != api.MemberGoing {
			t.Error(m)
		}
		o.refuse(api.ErrOp, headerOf(p, 8, slashOf(5, a, b)), headerOf(p, 8, slashOf(5, c, d)))
	}
	// Who is gone can't be marked any more; who goes can.
	going := o.header(six, 7, exit(5))
	if m := o.memberOf(o.header(going, 7+1, exit(1)), 5); m.Status != api.MemberGone {
		t.Error(m)
	}
	o.refuse(api.ErrOp, headerOf(going, 8, slashOf(5, a, b)))
	o.header(six, 7, exit(5), slashOf(5, a, b))
	o.hold()
}

// P18.1: MaxHeaders headers, and none more: that is told behind all that the chain tells, and ahead of what is wrong with operations.
func TestHeaderFull(t *testing.T) {
	s, e := New(four())
	if e != api.OK {
		t.Fatal(e)
	}
	last := s.Anchor().Point
	for n := range uint64(4096) {
		up := last
		if n%2 == 1 {
			up = s.Anchor().Point
		}
		p, e := s.Apply(headerOf(up, 6+n))
		if e != api.OK {
			t.Fatal(n, e)
		}
		last = p
	}
	for _, given := range []struct {
		i    api.Input
		want api.Errno
	}{
		{headerOf(last, 9000), api.ErrFull}, {headerOf(last, 9000, exit(1)), api.ErrFull}, {headerOf(last, 9000, exit(9)), api.ErrFull}, {headerOf(last, 9000, deposit(1, 1)), api.ErrFull},
		{headerOf(last, 0), api.ErrArg}, {headerOf(s.Anchor().Point, 6), api.ErrExists}, {headerOf(api.Point{Name: allOf(9)}, 9000), api.ErrParent}, {headerOf(last, 9), api.ErrEpoch},
	} {
		p, e := s.Apply(given.i)
		if p != (api.Point{}) || e != given.want || s.Check(given.i) != given.want {
			t.Errorf("of a full chain: %v; want %v", e, given.want)
		}
	}
	if s.Chain().Len() != 4096 || len(s.Inputs()) != 4096 || s.Mode() != api.ModeWell {
		t.Error(s.Chain().Len(), len(s.Inputs()))
	}
	// Votes are taken still.
	first := s.Chain().Children(s.Anchor().Point.Name)[0]
	if _, e := s.Apply(voteOf(t, 1, s.Anchor().Point, first)); e != api.OK || s.Pool().Len() != 1 {
		t.Error("a vote:", e)
	}
}
