package state

import (
	"math"
	"testing"

	"landmark/api"
)

// wrongAnchors each are an anchor with one thing that may not be.
func wrongAnchors(right api.Anchor) []api.Anchor {
	var l []api.Anchor
	wrong := func(change func(*api.Anchor)) {
		a := right
		a.Validators = append([]api.Validator(nil), right.Validators...)
		l = append(l, changed(a, change))
	}
	for _, epoch := range []uint64{mostEpoch + 1, 1 << 63, math.MaxUint64} {
		wrong(func(a *api.Anchor) { a.Point.Epoch = epoch })
	}
	for _, stake := range []uint64{0, 1<<32 + 1, 1 << 63, math.MaxUint64} {
		wrong(func(a *api.Anchor) { a.Validators[0].Stake = stake })
		wrong(func(a *api.Anchor) { a.Validators[len(a.Validators)-1].Stake = stake })
	}
	for _, churn := range []uint64{0, 1<<62 + 1, 1 << 63, math.MaxUint64} {
		wrong(func(a *api.Anchor) { a.Churn = churn })
	}
	for _, decay := range []uint64{1<<62 + 1, 1 << 63, math.MaxUint64} {
		wrong(func(a *api.Anchor) { a.Decay = decay })
	}
	wrong(func(a *api.Anchor) { a.Validators = nil })
	wrong(func(a *api.Anchor) { a.Validators[0].Key = a.Validators[len(a.Validators)-1].Key })
	wrong(func(a *api.Anchor) {
		for n := len(a.Validators); n < 65; n++ {
			a.Validators = append(a.Validators, api.Validator{Key: allOf(byte(n)), Stake: 1})
		}
	})
	return l
}

// P18.1: of an anchor that may be, at each edge, there is a state that tells it, its register, and its checkpoint as final and justified.
func TestNew(t *testing.T) {
	ones := make([]uint64, 64)
	for i := range ones {
		ones[i] = 1 << 32
	}
	all := []api.Anchor{four(), anchorOf(1, 0, 1), anchorOf(1<<62, 1<<62, 1<<32, 1), anchorOf(1, 1<<62, 7), anchorOf(1<<62, 0, 7, 9), anchorOf(3, 100, ones...)}
	for _, a := range all {
		for _, p := range []api.Point{{}, {Name: allOf(255)}, {Epoch: 1}, {Epoch: 5, Name: allOf(1)}, {Epoch: mostEpoch}, {Epoch: mostEpoch - 1, Name: allOf(3)}} {
			a.Point = p
			o := newPair(t, a)
			o.hold()
			o.wantFinal(p)
			o.wantJustified(p)
			o.wantMode(api.ModeWell)
			if o.s.Clock() != p.Epoch || len(o.s.Inputs()) != 0 || len(o.s.Evidence()) != 0 {
				t.Error("a new state knows something")
			}
		}
	}
}

// P18.1: an anchor that may not be.
func TestNewMayNot(t *testing.T) {
	for n, a := range wrongAnchors(four()) {
		if s, e := New(a); s != nil || e != api.ErrArg {
			t.Errorf("anchor %d: %v", n, e)
		}
	}
	if s, e := New(api.Anchor{}); s != nil || e != api.ErrArg {
		t.Error("a zero anchor:", e)
	}
}

// P18.2: where the anchor's time ends: the decay, divided by twice the churn, and rounded down, behind its epoch.
func TestEnds(t *testing.T) {
	for _, given := range []struct{ epoch, churn, decay, want uint64 }{
		{5, 1, 20, 15}, {5, 1, 21, 15}, {5, 1, 19, 14}, {5, 1, 0, 5}, {5, 1, 1, 5}, {5, 1, 2, 6}, {5, 10, 100, 10}, {5, 10, 99, 9}, {0, 5, 9, 0}, {0, 5, 10, 1},
		{5, 1 << 62, 1 << 62, 5}, {5, 1 << 61, 1 << 62, 6}, {5, 1, 1 << 62, 5 + 1<<61}, {1 << 62, 1, 1 << 62, 1<<62 + 1<<61}, {1 << 62, 1, 0, 1 << 62},
	} {
		a := anchorOf(given.churn, given.decay, 1)
		a.Point.Epoch = given.epoch
		o := newPair(t, a)
		if ends := o.s.Ends(); ends != given.want {
			t.Errorf("%v: Ends %d", given, ends)
		}
		o.hold()
		for _, reading := range []uint64{given.want, given.want + 1} {
			if reading > given.epoch {
				o.take(readingOf(reading))
				o.hold()
			}
			want := api.ModeWell
			if reading > given.want {
				want = api.ModeStale
			}
			o.wantMode(want)
		}
	}
}

// P18.1: Kinds that are none, whatever else the input has, in each mode; that is told ahead of all else.
func TestKinds(t *testing.T) {
	well := newPair(t, four())
	stale, l := staleOne(t)
	fault, _, _ := forked(t)
	for _, o := range []*pair{well, stale, fault} {
		whole := headerOf(o.m.anchor.Point, 6)
		whole.Vote = voteOf(t, 1, l[0], l[1]).Vote
		whole.Reading = 9
		whole.Anchor = four()
		for _, kind := range []api.InputKind{0, 5, 6, 255, 256, 257, 1 << 32, 1<<32 + 1, 1<<32 + 3, -1, -2, -3, math.MaxInt, math.MinInt} {
			whole.Kind = kind
			o.refuse(api.ErrArg, whole, api.Input{Kind: kind})
		}
	}
}

// P18.1: an input is looked at as its Kind says, whatever stands in what it does not name; that is not kept.
func TestNotNamed(t *testing.T) {
	o := newPair(t, four())
	wrong := api.Input{
		Header:  api.Header{Epoch: math.MaxUint64, Ops: make([]api.HeaderOp, 40)},
		Vote:    api.Vote{Validator: -4, Sig: make([]byte, 5000)},
		Reading: 3,
		Anchor:  api.Anchor{Churn: math.MaxUint64},
	}
	header := wrong
	header.Kind, header.Header = api.InputHeader, headerOf(o.m.anchor.Point, 6).Header
	p := o.take(header)
	for n := range 3 {
		vote := wrong
		vote.Kind, vote.Vote = api.InputVote, voteOf(t, n+1, o.m.anchor.Point, p).Vote
		o.take(vote)
	}
	reading := wrong
	reading.Kind, reading.Reading = api.InputClock, 16
	o.take(reading)
	o.hold()
	for _, i := range o.s.Inputs() {
		if !sameInput(i, cloneInput(i)) {
			t.Error("an input has what its Kind does not name")
		}
	}
	anchor := wrong
	anchor.Kind, anchor.Anchor = api.InputAnchor, o.newAnchor(p, 30)
	o.take(anchor)
	o.hold()
}

// The chapter's example.
func TestExample(t *testing.T) {
	o := newPair(t, four())
	l := o.line(o.m.anchor.Point, 6, 7)
	o.vote(l[0], l[1], 1, 2, 3)
	o.vote(l[1], l[2], 1, 2, 3)
	o.wantFinal(l[1])
	o.hold()
}

// The document's second example of the whole: the later link's votes come first.
func TestExampleTurned(t *testing.T) {
	o := newPair(t, four())
	l := o.line(o.m.anchor.Point, 6, 7)
	o.vote(l[1], l[2], 1, 2, 3)
	o.wantFinal(l[0])
	o.wantJustified(l[0])
	o.vote(l[0], l[1], 1, 2)
	o.wantFinal(l[0])
	o.vote(l[0], l[1], 3)
	o.wantFinal(l[1])
	o.wantJustified(l...)
	o.hold()
}
