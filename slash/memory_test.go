package slash

import (
	"bytes"
	"slices"
	"testing"

	"landmark/api"
	"landmark/key"
)

// roomy is a list of which three keys break the rules, with room behind it and behind its signatures.
func roomy() []api.Signed {
	l := append(make([]api.Signed, 0, 20), list("a57", "b57", "a67", "c12", "b67", "c02")...)
	for i := range l {
		l[i].Vote.Sig = append(make([]byte, 0, 40), l[i].Vote.Sig...)
	}
	return l
}

// P14.2: what is handed in is not changed, neither it nor what lies behind it.
func TestFindHandedIn(t *testing.T) {
	l := roomy()
	given := cloneSigned(l)
	evidence := Find(l)
	Named(evidence)
	if !slices.EqualFunc(l, given, sameSigned) || !sameSigned(l[:7][6], api.Signed{}) {
		t.Error("what was handed in was changed")
	}
	for _, one := range l {
		if sig := one.Vote.Sig; !bytes.Equal(sig[len(sig):cap(sig)], make([]byte, 35)) {
			t.Error("what lies behind a signature was changed")
		}
	}
}

// P14.2: what was found does not hang on what was handed in, whatever becomes of that.
func TestFindApart(t *testing.T) {
	l := roomy()
	want := evidenceAt(cloneSigned(l), found{0, 2}, found{1, 4}, found{3, 5})
	got := Find(l)
	for i := range l {
		spoil(l[i].Vote.Sig)
		l[i] = api.Signed{}
	}
	if !slices.EqualFunc(got, want, sameEvidence) {
		t.Error("what was answered hangs on what was handed in")
	}
}

// P14.2: what was found is the caller's: changed, it changes neither the list nor other answers, nor other votes of one answer.
func TestFindAnswered(t *testing.T) {
	l := roomy()
	given := cloneSigned(l)
	first, second := Find(l), Find(l)
	want := evidenceAt(given, found{0, 2}, found{1, 4}, found{3, 5})
	for i := range first {
		spoil(first[i].A.Sig)
		if !sameVote(first[i].B, want[i].B) {
			t.Error("two votes share something")
		}
		spoil(first[i].B.Sig)
		first[i].Key = allOf(7)
		if !slices.EqualFunc(first[i+1:], want[i+1:], sameEvidence) {
			t.Error("two of one answer share something")
		}
	}
	first = first[:cap(first)]
	for i := range first {
		first[i] = api.Evidence{}
	}
	if !slices.EqualFunc(second, want, sameEvidence) || !slices.EqualFunc(l, given, sameSigned) || !slices.EqualFunc(Find(l), want, sameEvidence) {
		t.Error("an answer shares something")
	}
}

// P14.2: of one signature's memory, handed in with all votes, each vote that is answered has its own.
func TestFindOneSig(t *testing.T) {
	l, sig := roomy(), []byte("all votes' sig")
	for i := range l {
		l[i].Vote.Sig = sig
	}
	got := Find(l)
	var sigs [][]byte
	for _, e := range got {
		sigs = append(sigs, e.A.Sig, e.B.Sig)
	}
	for i := range sigs {
		spoil(sigs[i])
		for _, other := range append(sigs[i+1:], sig) {
			if string(other) != "all votes' sig" {
				t.Fatal("two signatures are one", i)
			}
		}
	}
}

// P14.2: what is named is the caller's, in new memory, and what was handed in is not changed.
func TestNamedMemory(t *testing.T) {
	l := append(make([]api.Evidence, 0, 9), evidenceAt(roomy(), found{0, 2}, found{1, 4}, found{0, 2}, found{3, 5})...)
	given := slices.Clone(l)
	want := []api.Hash{keyOf(0), keyOf(1), keyOf(2)}
	first, second := Named(l), Named(l)
	first = first[:cap(first)]
	for i := range first {
		first[i] = allOf(7)
	}
	if !slices.Equal(second, want) || !slices.EqualFunc(l, given, sameEvidence) || !sameEvidence(l[:5][4], api.Evidence{}) {
		t.Error("an answer shares something, or what was handed in was changed")
	}
	for i := range l {
		l[i].Key = allOf(8)
	}
	if !slices.Equal(second, want) {
		t.Error("what was answered hangs on what was handed in")
	}
}

// P14.2: Check changes nothing of what is handed in, and is answered the same again.
func TestCheckHandedIn(t *testing.T) {
	k := key.Make(key.Seed("a"))
	e := api.Evidence{Key: k.Root(), A: signed(t, vote(5, 7), k), B: signed(t, vote(6, 7), k)}
	given := api.Evidence{Key: e.Key, A: e.A, B: e.B}
	given.A.Sig, given.B.Sig = bytes.Clone(e.A.Sig), bytes.Clone(e.B.Sig)
	for range 3 {
		if code := Check(e); code != api.OK || !sameEvidence(e, given) {
			t.Error(code)
		}
	}
	// Both votes may lie in one memory.
	both := append(bytes.Clone(e.A.Sig), e.B.Sig...)
	e.A.Sig, e.B.Sig = both[:1216], both[1216:]
	if code := Check(e); code != api.OK {
		t.Error(code)
	}
}

// What many ask of one list at once is the same for each.
func TestFindByMany(t *testing.T) {
	l := roomy()
	want := evidenceAt(cloneSigned(l), found{0, 2}, found{1, 4}, found{3, 5})
	answers := make(chan bool)
	for range 8 {
		go func() {
			got := Find(l)
			answers <- slices.EqualFunc(got, want, sameEvidence) && len(Named(got)) == 3
		}()
	}
	for range 8 {
		if !<-answers {
			t.Error("an answer is another one")
		}
	}
}
