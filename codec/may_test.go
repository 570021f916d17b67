package codec

import (
	"math"
	"slices"
	"testing"

	"landmark/api"
)

// expectMay wants each of a list to be as it may be, or not; and none to be changed by the question.
func expectMay[T any](t *testing.T, what string, l []T, may func(T) bool, want bool) {
	t.Helper()
	for i, x := range l {
		if may(x) != want {
			t.Errorf("%s %d: %v; want %v: %.200v", what, i, !want, want, x)
		}
	}
}

// P9.1: what may be and what may not be, for one reason each.
func TestMay(t *testing.T) {
	expectMay(t, "a right point", rightPoints(), MayPoint, true)
	expectMay(t, "a wrong point", wrongPoints(), MayPoint, false)
	expectMay(t, "a right vote", rightVotes(), MayVote, true)
	expectMay(t, "a wrong vote", wrongVotes(), MayVote, false)
	expectMay(t, "a right operation", rightOps(), MayOp, true)
	expectMay(t, "a wrong operation", wrongOps(), MayOp, false)
	expectMay(t, "a right header", rightHeaders(), MayHeader, true)
	expectMay(t, "a wrong header", wrongHeaders(), MayHeader, false)
	expectMay(t, "a right anchor", rightAnchors(), MayAnchor, true)
	expectMay(t, "a wrong anchor", wrongAnchors(), MayAnchor, false)
}

// P9.1: the chapter's examples, and other zero ones: a point of noughts may be, the others lack something.
func TestMayZero(t *testing.T) {
	if MayHeader(api.Header{}) || MayOp(api.HeaderOp{Kind: api.OpDeposit}) {
		t.Error("the examples")
	}
	if !MayPoint(api.Point{}) || MayVote(api.Vote{}) || MayOp(api.HeaderOp{}) || MayAnchor(api.Anchor{}) {
		t.Error("zero ones")
	}
}

// P9.1: the greatest epoch is MaxEpoch, of a point, of both of a vote's, of a header and of an anchor's; a header's least is 1.
func TestMayEpoch(t *testing.T) {
	for epoch, want := range map[uint64]bool{0: true, 1: true, api.MaxEpoch - 1: true, api.MaxEpoch: true, api.MaxEpoch + 1: false, math.MaxUint64: false} {
		p := api.Point{Epoch: epoch}
		if MayPoint(p) != want || MayVote(api.Vote{Validator: 1, Source: p}) != want || MayVote(api.Vote{Validator: 1, Target: p}) != want {
			t.Error("a point, or a vote's:", epoch)
		}
		if MayHeader(api.Header{Epoch: epoch}) != (want && epoch > 0) {
			t.Error("a header's:", epoch)
		}
		if MayAnchor(api.Anchor{Point: p, Validators: members(1), Churn: 1}) != want {
			t.Error("an anchor's:", epoch)
		}
	}
}

// P9.1: validators' numbers and stakes go from 1 to their bounds, wherever they stand.
func TestMayNumbersAndStakes(t *testing.T) {
	numbered := func(n int) []bool {
		return []bool{
			MayVote(api.Vote{Validator: n}),
			MayOp(api.HeaderOp{Kind: api.OpExit, Validator: n}),
			MayOp(changed(slash(), func(o *api.HeaderOp) { o.Validator = n })),
			MayOp(changed(slash(), func(o *api.HeaderOp) { o.Evidence[0].Validator = n })),
			MayOp(changed(slash(), func(o *api.HeaderOp) { o.Evidence[1].Validator = n })),
		}
	}
	for n, want := range map[int]bool{math.MinInt: false, -1: false, 0: false, 1: true, 64: true, 65: false, 257: false, math.MaxInt: false} {
		if got := numbered(n); slices.Contains(got, !want) {
			t.Error("the number", n, got)
		}
	}
	for stake, want := range map[uint64]bool{0: false, 1: true, 1 << 32: true, 1<<32 + 1: false, math.MaxUint64: false} {
		if MayOp(api.HeaderOp{Kind: api.OpDeposit, Stake: stake}) != want || MayAnchor(api.Anchor{Validators: []api.Validator{{Stake: stake}}, Churn: 1}) != want {
			t.Error("the stake", stake)
		}
	}
}

// P9.1: a Sig of 4096 bytes may be, and one of a byte more may not, whatever the bytes are; a Sig of none may be nil or empty.
func TestMaySig(t *testing.T) {
	for size, want := range map[int]bool{0: true, 1: true, 4095: true, 4096: true, 4097: false, 65536: false} {
		for _, x := range []byte{0, 255} {
			v := changed(vote(), func(v *api.Vote) { v.Sig = repeated(x, size) })
			o := changed(slash(), func(o *api.HeaderOp) { o.Evidence[1] = v })
			if MayVote(v) != want || MayOp(o) != want || MayHeader(api.Header{Epoch: 1, Ops: []api.HeaderOp{o}}) != want {
				t.Error("a Sig of bytes", size)
			}
		}
	}
	if !MayVote(api.Vote{Validator: 1, Sig: nil}) || !MayVote(api.Vote{Validator: 1, Sig: []byte{}}) {
		t.Error("a Sig of no bytes")
	}
}

// P9.1: each kind that there is, and kinds that there are not; nil and empty evidence are one.
func TestMayOpKinds(t *testing.T) {
	for _, evidence := range [][]api.Vote{nil, {}} {
		for kind := api.OpKind(-300); kind <= 300; kind++ {
			bare := api.HeaderOp{Kind: kind, Evidence: evidence}
			staked, numbered := bare, bare
			staked.Stake, numbered.Validator = 1, 1
			if MayOp(bare) || MayOp(staked) != (kind == 1) || MayOp(numbered) != (kind == 2) {
				t.Error("of the kind", kind)
			}
		}
	}
}

// P9.1: evidence is any two votes that may be: also of others than the operation names, and such as break no rule.
func TestMayEvidence(t *testing.T) {
	for n := range 6 {
		o := changed(slash(), func(o *api.HeaderOp) { o.Evidence = repeated(vote(), n) })
		if MayOp(o) != (n == 2) {
			t.Error("evidence of votes", n)
		}
	}
	o := changed(slash(), func(o *api.HeaderOp) { o.Validator = 9; o.Evidence[0].Validator = 10 })
	if !MayOp(o) {
		t.Error("evidence of others' votes")
	}
}

// P9.1: at most 16 operations of a header, 1 to 64 validators of an anchor.
func TestMayCounts(t *testing.T) {
	for n := range 600 {
		if MayHeader(api.Header{Epoch: 1, Ops: repeated(exit(), n)}) != (n <= 16) {
			t.Error("a header of operations", n)
		}
		if MayAnchor(api.Anchor{Validators: members(n), Churn: 1}) != (1 <= n && n <= 64) {
			t.Error("an anchor of validators", n)
		}
	}
	if !MayHeader(api.Header{Epoch: 1, Ops: []api.HeaderOp{}}) || MayAnchor(api.Anchor{Validators: []api.Validator{}, Churn: 1}) {
		t.Error("empty lists")
	}
}

// P9.1: a churn from 1 to 2^62, a decay of at most 2^62.
func TestMayChurnAndDecay(t *testing.T) {
	for n, want := range map[uint64]bool{0: true, 1: true, 1<<62 - 1: true, 1 << 62: true, 1<<62 + 1: false, 1 << 63: false, math.MaxUint64: false} {
		if MayAnchor(api.Anchor{Validators: members(1), Churn: n}) != (want && n > 0) {
			t.Error("a churn of", n)
		}
		if MayAnchor(api.Anchor{Validators: members(1), Churn: 1, Decay: n}) != want {
			t.Error("a decay of", n)
		}
	}
}
