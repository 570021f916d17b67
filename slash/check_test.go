package slash

import (
	"testing"

	"landmark/api"
	"landmark/key"
)

// holdCheck wants that answer of some evidence, and of it the other way round.
func holdCheck(t *testing.T, e api.Evidence, want api.Errno, why string) {
	t.Helper()
	if code := Check(e); code != want {
		t.Errorf("%s: Check of %s and %s: %v; want %v", why, toldVote(e.A), toldVote(e.B), code, want)
	}
	e.A, e.B = e.B, e.A
	if code := Check(e); code != want {
		t.Errorf("%s: Check of %s and %s: %v; want %v", why, toldVote(e.A), toldVote(e.B), code, want)
	}
}

// P14.2: votes that break the rules, each way, both signed by one key.
func TestCheck(t *testing.T) {
	for _, k := range keys("a", "b") {
		for _, pair := range [][2]api.Vote{
			{vote(5, 7), vote(6, 7)}, {vote(5, 9), vote(6, 8)}, {vote(5, 6), link(at(5), named(6, 2))}, {vote(5, 6), link(named(5, 2), at(6))},
			{vote(0, mostEpoch), vote(1, mostEpoch-1)}, {vote(0, mostEpoch), vote(1, mostEpoch)}, {vote(0, 0), vote(1, 0)}, {vote(1, 40), vote(2, 8)},
		} {
			e := api.Evidence{Key: k.Root(), A: signed(t, pair[0], k), B: signed(t, pair[1], k)}
			holdCheck(t, e, api.OK, "evidence")
			// A key may have other numbers on other branches.
			e.B = signed(t, changed(pair[1], func(v *api.Vote) { v.Validator = 64 }), k)
			holdCheck(t, e, api.OK, "evidence of two numbers")
		}
	}
}

// P14.2: all votes of few epochs, signed: evidence are those pairs that break the rules.
func TestCheckAll(t *testing.T) {
	k := key.Make(key.Seed("a"))
	var l []api.Vote
	for source := range uint64(4) {
		for target := range uint64(4) {
			l = append(l, signed(t, vote(source, target), k), signed(t, link(at(source), named(target, 2)), k))
		}
	}
	for _, a := range l {
		for _, b := range l {
			want := api.ErrLink
			if doBreak(a, b) {
				want = api.OK
			}
			holdCheck(t, api.Evidence{Key: k.Root(), A: a, B: b}, want, "one of all pairs")
		}
	}
}

// P14.2: either vote may not be, whatever else is wrong.
func TestCheckWrongVote(t *testing.T) {
	k := key.Make(key.Seed("a"))
	a, b := signed(t, vote(5, 9), k), signed(t, vote(6, 8), k)
	peace := signed(t, vote(9, 10), k)
	for _, v := range wrongVotes(a) {
		holdCheck(t, api.Evidence{Key: k.Root(), A: v, B: b}, api.ErrArg, "one may not be")
		holdCheck(t, api.Evidence{Key: k.Root(), A: v, B: v}, api.ErrArg, "both may not be, of one link")
		holdCheck(t, api.Evidence{Key: k.Root(), A: v, B: changed(v, func(v *api.Vote) { v.Target.Name = allOf(5) })}, api.ErrArg, "both may not be, and break a rule")
		holdCheck(t, api.Evidence{Key: k.Root(), A: v, B: changed(v, func(v *api.Vote) { v.Validator, v.Sig = 3, nil })}, api.ErrArg, "one may not be, of one link or not")
		holdCheck(t, api.Evidence{Key: k.Root(), A: v, B: peace}, api.ErrArg, "one may not be, and no rule is broken")
		holdCheck(t, api.Evidence{Key: allOf(1), A: v, B: b}, api.ErrArg, "one may not be, and the key is another one")
		holdCheck(t, api.Evidence{A: v, B: vote(6, 8)}, api.ErrArg, "one may not be, and nobody signed")
		holdCheck(t, api.Evidence{A: v, B: vote(9, 10)}, api.ErrArg, "all is wrong")
	}
	holdCheck(t, api.Evidence{}, api.ErrArg, "nothing")
}

// P14.2: votes that break no rule, signed and not.
func TestCheckNoRule(t *testing.T) {
	k := key.Make(key.Seed("a"))
	for _, pair := range [][2]api.Vote{{vote(5, 7), vote(7, 8)}, {vote(5, 7), vote(5, 8)}, {vote(5, 7), vote(6, 8)}, {vote(5, 7), vote(5, 7)}, {vote(5, 7), changed(vote(5, 7), func(v *api.Vote) { v.Validator = 9 })}} {
		a, b := signed(t, pair[0], k), signed(t, pair[1], k)
		holdCheck(t, api.Evidence{Key: k.Root(), A: a, B: b}, api.ErrLink, "no rule is broken")
		holdCheck(t, api.Evidence{Key: k.Root(), A: a, B: pair[1]}, api.ErrLink, "no rule is broken, and one is not signed")
		holdCheck(t, api.Evidence{Key: k.Root(), A: pair[0], B: b}, api.ErrLink, "no rule is broken, and one is not signed")
		holdCheck(t, api.Evidence{Key: k.Root(), A: pair[0], B: pair[1]}, api.ErrLink, "no rule is broken, and none is signed")
		holdCheck(t, api.Evidence{A: a, B: b}, api.ErrLink, "no rule is broken, and the key is noughts")
	}
}

// P14.2: either signature is none, or both, or another key's.
func TestCheckWrongSig(t *testing.T) {
	l := keys("a", "b")
	k, other := l[0], l[1]
	for _, pair := range [][2]api.Vote{{vote(5, 7), vote(6, 7)}, {vote(5, 9), vote(6, 8)}} {
		a, b := signed(t, pair[0], k), signed(t, pair[1], k)
		e := api.Evidence{Key: k.Root(), A: a, B: b}
		holdCheck(t, e, api.OK, "evidence")
		for _, sig := range [][]byte{nil, {}, {1}, b.Sig[:1215], append(b.Sig, 0), make([]byte, 1216), make([]byte, 4096), a.Sig, signed(t, pair[1], other).Sig, sigBy(t, k, 3, textOf(b))} {
			e.B.Sig = sig
			holdCheck(t, e, api.ErrSig, "one is not signed")
		}
		e.B.Sig = b.Sig
		e.A.Sig, e.B.Sig = b.Sig, a.Sig
		holdCheck(t, e, api.ErrSig, "each has the other one's signature")
		holdCheck(t, api.Evidence{Key: k.Root(), A: pair[0], B: pair[1]}, api.ErrSig, "none is signed")
		for _, key := range []api.Hash{{}, other.Root(), allOf(255), changed(k.Root(), func(h *api.Hash) { h[31] ^= 1 })} {
			holdCheck(t, api.Evidence{Key: key, A: a, B: b}, api.ErrSig, "of another key")
		}
		holdCheck(t, api.Evidence{Key: k.Root(), A: a, B: signed(t, pair[1], other)}, api.ErrSig, "of two keys")
	}
}
