package codec

import (
	"bytes"
	"math/rand/v2"
	"slices"
	"testing"

	"landmark/api"
)

// expectSame asks for both orders, and each with itself.
func expectSame[T any](t *testing.T, same func(a, b T) bool, a, b T, want bool, why string) {
	t.Helper()
	if same(a, b) != want || same(b, a) != want {
		t.Errorf("%s: %v, %v; want %v", why, same(a, b), same(b, a), want)
	}
	if !same(a, a) || !same(b, b) {
		t.Errorf("%s: one is not the same as itself", why)
	}
}

// testSame holds each of a list against each: those of two lists made apart are the same, if their places are.
func testSame[T any](t *testing.T, same func(a, b T) bool, l, made []T) {
	for i, a := range l {
		for j, b := range made {
			if same(a, b) != (i == j) {
				t.Errorf("%d and %d: %v", i, j, i != j)
			}
		}
	}
}

// P9.4: right ones are the same as their like, made apart, and as no other one.
func TestSame(t *testing.T) {
	testSame(t, SameVote, rightVotes(), rightVotes())
	testSame(t, SameHeader, rightHeaders(), rightHeaders())
	testSame(t, SameAnchor, rightAnchors(), rightAnchors())
}

// P9.4: votes that differ in one thing.
func TestSameVote(t *testing.T) {
	changes := append(otherVotes(),
		func(v *api.Vote) { v.Validator += 256 },
		func(v *api.Vote) { v.Validator = -3 },
		func(v *api.Vote) { v.Sig = nil },
		func(v *api.Vote) { v.Sig = []byte("si") },
		func(v *api.Vote) { v.Sig = []byte("sig\x00") },
		func(v *api.Vote) { v.Sig = []byte("sih") },
		func(v *api.Vote) { v.Sig = []byte("tig") },
	)
	for i, change := range changes {
		other := changed(vote(), change)
		expectSame(t, SameVote, vote(), other, false, "an other vote")
		// The same one within evidence, within a header.
		for place := range 2 {
			h := header()
			h.Ops[2].Evidence[place] = changed(h.Ops[2].Evidence[place], change)
			expectSame(t, SameHeader, header(), h, false, "an other vote of evidence")
		}
		expectSame(t, SameVote, other, changed(vote(), changes[i]), true, "the same one")
	}
}

// P9.4: headers that differ in one thing, also such as may not be.
func TestSameHeader(t *testing.T) {
	for i, change := range []func(*api.Header){
		func(h *api.Header) { h.Parent[0]++ },
		func(h *api.Header) { h.Parent[31]++ },
		func(h *api.Header) { h.Epoch++ },
		func(h *api.Header) { h.Epoch += 1 << 63 },
		func(h *api.Header) { h.Ops = nil },
		func(h *api.Header) { h.Ops = h.Ops[:2] },
		func(h *api.Header) { h.Ops = h.Ops[1:] },
		func(h *api.Header) { h.Ops = append(h.Ops, exit()) },
		func(h *api.Header) { h.Ops[0], h.Ops[1] = h.Ops[1], h.Ops[0] },
		func(h *api.Header) { h.Ops[0].Kind = 4 },
		func(h *api.Header) { h.Ops[0].Kind += 256 },
		func(h *api.Header) { h.Ops[0].Key[0]++ },
		func(h *api.Header) { h.Ops[0].Key[31]++ },
		func(h *api.Header) { h.Ops[0].Stake++ },
		func(h *api.Header) { h.Ops[0].Stake += 1 << 40 },
		func(h *api.Header) { h.Ops[0].Validator = 1 },
		func(h *api.Header) { h.Ops[0].Evidence = []api.Vote{{}} },
		func(h *api.Header) { h.Ops[1].Validator++ },
		func(h *api.Header) { h.Ops[1].Validator += 256 },
		func(h *api.Header) { h.Ops[1].Key[5] = 1 },
		func(h *api.Header) { h.Ops[1].Stake = 1 },
		func(h *api.Header) { h.Ops[2].Validator++ },
		func(h *api.Header) { h.Ops[2].Evidence = nil },
		func(h *api.Header) { h.Ops[2].Evidence = h.Ops[2].Evidence[:1] },
		func(h *api.Header) { h.Ops[2].Evidence = append(h.Ops[2].Evidence, vote()) },
		func(h *api.Header) { slices.Reverse(h.Ops[2].Evidence) },
	} {
		other := changed(header(), change)
		expectSame(t, SameHeader, header(), other, false, "change")
		if !SameHeader(other, changed(header(), change)) {
			t.Error("not the same behind the change", i)
		}
	}
}

// P9.4: anchors that differ in one thing, also such as may not be.
func TestSameAnchor(t *testing.T) {
	for i, change := range []func(*api.Anchor){
		func(a *api.Anchor) { a.Point.Epoch++ },
		func(a *api.Anchor) { a.Point.Name[0]++ },
		func(a *api.Anchor) { a.Point.Name[31]++ },
		func(a *api.Anchor) { a.Validators = nil },
		func(a *api.Anchor) { a.Validators = a.Validators[:3] },
		func(a *api.Anchor) { a.Validators = a.Validators[1:] },
		func(a *api.Anchor) { a.Validators = members(5) },
		func(a *api.Anchor) { slices.Reverse(a.Validators) },
		func(a *api.Anchor) { a.Validators[0].Key[0]++ },
		func(a *api.Anchor) { a.Validators[3].Key[31]++ },
		func(a *api.Anchor) { a.Validators[2].Stake++ },
		func(a *api.Anchor) { a.Validators[3].Stake += 1 << 40 },
		func(a *api.Anchor) { a.Churn++ },
		func(a *api.Anchor) { a.Decay++ },
		func(a *api.Anchor) { a.Churn, a.Decay = a.Decay, a.Churn },
	} {
		other := changed(anchor(), change)
		expectSame(t, SameAnchor, anchor(), other, false, "change")
		if !SameAnchor(other, changed(anchor(), change)) {
			t.Error("not the same behind the change", i)
		}
	}
}

// P9.4: nil and empty lists are one; a list of something zero is another one.
func TestSameNilAndEmpty(t *testing.T) {
	expectSame(t, SameVote, api.Vote{}, api.Vote{Sig: []byte{}}, true, "Sig")
	expectSame(t, SameVote, api.Vote{}, api.Vote{Sig: []byte{0}}, false, "Sig of a nought")
	expectSame(t, SameHeader, api.Header{}, api.Header{Ops: []api.HeaderOp{}}, true, "Ops")
	expectSame(t, SameHeader, api.Header{}, api.Header{Ops: []api.HeaderOp{{}}}, false, "Ops of a zero one")
	withEvidence := func(l []api.Vote) api.Header { return api.Header{Ops: []api.HeaderOp{{Evidence: l}}} }
	expectSame(t, SameHeader, withEvidence(nil), withEvidence([]api.Vote{}), true, "Evidence")
	expectSame(t, SameHeader, withEvidence(nil), withEvidence([]api.Vote{{}}), false, "Evidence of a zero one")
	expectSame(t, SameHeader, withEvidence([]api.Vote{{}}), withEvidence([]api.Vote{{Sig: []byte{}}}), true, "an evidence's Sig")
	expectSame(t, SameAnchor, api.Anchor{}, api.Anchor{Validators: []api.Validator{}}, true, "Validators")
	expectSame(t, SameAnchor, api.Anchor{}, api.Anchor{Validators: []api.Validator{{}}}, false, "Validators of a zero one")
}

// P9.4: points in their order: by epoch, then by the name's bytes, the first one first, from 0 to 255.
func TestPointLess(t *testing.T) {
	l := []api.Point{
		{}, {Name: api.Hash{31: 1}}, {Name: api.Hash{31: 127}}, {Name: api.Hash{31: 128}}, {Name: api.Hash{31: 255}},
		{Name: api.Hash{30: 1}}, {Name: api.Hash{1: 9}}, {Name: api.Hash{1: 9, 31: 1}}, {Name: api.Hash{1}}, {Name: api.Hash{127}}, {Name: api.Hash{128}}, {Name: allOf(255)},
		{Epoch: 1}, {Epoch: 1, Name: api.Hash{2}}, {Epoch: 2}, {Epoch: 255}, {Epoch: 256}, {Epoch: 1 << 32}, {Epoch: 1 << 62},
		// Points that may not be stand in that order, too.
		{Epoch: 1<<63 - 1, Name: allOf(255)}, {Epoch: 1 << 63}, {Epoch: 1<<63 + 1}, {Epoch: 1<<64 - 1}, {Epoch: 1<<64 - 1, Name: api.Hash{31: 1}},
	}
	for i, a := range l {
		for j, b := range l {
			if PointLess(a, b) != (i < j) {
				t.Errorf("%v less than %v: %v", a, b, i >= j)
			}
		}
	}
}

// P9.4: the order of points that may be is that of their bytes.
func TestPointLessAsBytes(t *testing.T) {
	source := rand.New(rand.NewPCG(9, 4))
	for range 2000 {
		a, b := somePoint(source), somePoint(source)
		if source.IntN(2) == 0 {
			b.Epoch = a.Epoch
		}
		if source.IntN(2) == 0 {
			b.Name = a.Name
			b.Name[source.IntN(32)] ^= byte(1 << source.IntN(8))
		}
		if PointLess(a, b) != (bytes.Compare(textPoint(a), textPoint(b)) < 0) || PointLess(b, a) != (bytes.Compare(textPoint(b), textPoint(a)) < 0) || PointLess(a, a) {
			t.Errorf("%v and %v", a, b)
		}
	}
}
