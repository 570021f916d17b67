package slash

import (
	"bytes"
	"math"
	"testing"

	"landmark/api"
)

// holdBreaks holds Breaks of two votes, in both orders, against the words; each breaks no rule with itself.
func holdBreaks(t *testing.T, a, b api.Vote) bool {
	t.Helper()
	want := doBreak(a, b)
	wantBreaks(t, a, b, want, "by the words")
	return want
}

// wantBreaks wants that of two votes, in both orders, and whatever else of them is another one's.
func wantBreaks(t *testing.T, a, b api.Vote, want bool, why string) {
	t.Helper()
	if Breaks(a, b) != want || Breaks(b, a) != want {
		t.Errorf("%s: of %s and %s: %v and %v", why, toldVote(a), toldVote(b), Breaks(a, b), Breaks(b, a))
	}
	if Breaks(a, a) || Breaks(b, b) {
		t.Errorf("%s: one of %s and %s breaks a rule with itself", why, toldVote(a), toldVote(b))
	}
	a.Validator, a.Sig = 64, []byte("another sig")
	if Breaks(a, b) != want || Breaks(b, a) != want {
		t.Errorf("%s: of %s and another validator's %s: %v and %v", why, toldVote(a), toldVote(b), Breaks(a, b), Breaks(b, a))
	}
}

// P14.1: the chapter's example.
func TestExample(t *testing.T) {
	wantBreaks(t, vote(5, 7), vote(6, 7), true, "5 to 7 and 6 to 7")
	wantBreaks(t, vote(5, 9), vote(6, 8), true, "5 to 9 and 6 to 8")
	wantBreaks(t, vote(5, 7), vote(7, 8), false, "5 to 7 and 7 to 8")
}

// P14.1: votes of one link break none, whatever else they are: ordinary links, such as go back, to themselves, and such as may not be.
func TestBreaksOneLink(t *testing.T) {
	for _, v := range []api.Vote{{}, vote(5, 6), vote(6, 5), vote(6, 6), link(named(6, 1), named(6, 2)), vote(0, mostEpoch), vote(0, math.MaxUint64), vote(math.MaxUint64, math.MaxUint64)} {
		for _, n := range []int{0, 1, 3, 64, 65, -1} {
			for _, sig := range [][]byte{nil, {}, {0}, make([]byte, 1216), make([]byte, 4097)} {
				w := v
				w.Validator, w.Sig = n, sig
				wantBreaks(t, v, w, false, "one link")
			}
		}
	}
}

// P14.1: links that differ in one part alone: those of one target's epoch break a rule, and a target's epoch alone breaks none.
func TestBreaksOnePart(t *testing.T) {
	wants := map[string]bool{"the source's name": true, "the source's epoch": true, "the target's name": true, "the target's epoch": false}
	for _, v := range []api.Vote{vote(5, 8), vote(8, 5), vote(7, 7), vote(0, 1), vote(0, 0), vote(mostEpoch-1, mostEpoch), vote(5, math.MaxUint64-1), vote(1<<63, 1<<63+9)} {
		for part, change := range partChanges() {
			wantBreaks(t, v, changed(v, change), wants[part], part)
		}
	}
	// Each bit of each part.
	v := vote(5, 8)
	for bit := range 256 {
		wantBreaks(t, v, changed(v, func(v *api.Vote) { v.Source.Name[bit/8] ^= 1 << (bit % 8) }), true, "the source's name")
		wantBreaks(t, v, changed(v, func(v *api.Vote) { v.Target.Name[bit/8] ^= 1 << (bit % 8) }), true, "the target's name")
	}
	for bit := range 64 {
		wantBreaks(t, v, changed(v, func(v *api.Vote) { v.Source.Epoch ^= 1 << bit }), true, "the source's epoch")
		wantBreaks(t, v, changed(v, func(v *api.Vote) { v.Target.Epoch ^= 1 << bit }), false, "the target's epoch")
	}
}

// P14.1: targets of one epoch and two names: from one source, from two of one epoch, from two epochs.
func TestBreaksOneEpoch(t *testing.T) {
	for _, epoch := range []uint64{6, 0, 1, mostEpoch, math.MaxUint64} {
		p, q := named(epoch, 1), named(epoch, 2)
		for _, source := range []api.Point{at(5), at(0), at(epoch), at(mostEpoch)} {
			for _, other := range []api.Point{source, named(source.Epoch, 2), at(4), at(mostEpoch - 1)} {
				wantBreaks(t, link(source, p), link(other, q), true, "two targets of one epoch")
				wantBreaks(t, link(source, p), link(other, p), source != other, "one target")
			}
		}
	}
}

// P14.1: one that goes round the other one by one epoch on each side, on one side alone, on none; both moved the same way.
func TestBreaksRound(t *testing.T) {
	for _, base := range []uint64{0, 1, 100, 1<<32 - 5, mostEpoch - 9, 1<<63 - 5, math.MaxUint64 - 9} {
		inner := vote(base+3, base+6)
		for _, given := range []struct {
			source, target uint64
			want           bool
		}{
			{2, 7, true}, {0, 7, true}, {2, 9, true}, {0, 9, true},
			{3, 7, false}, {2, 5, false}, {3, 5, false}, {4, 7, false}, {4, 9, false}, {0, 4, false},
			{4, 5, true}, {3, 9, false}, {0, 3, false}, {6, 9, false}, {7, 8, false}, {0, 2, false},
			{2, 6, true}, {4, 6, true},
		} {
			other := vote(base+given.source, base+given.target)
			wantBreaks(t, inner, other, given.want, "of 3 to 6")
			other.Source.Name, other.Target.Name = allOf(3), allOf(4)
			wantBreaks(t, inner, other, given.want, "of 3 to 6, under other names")
		}
		wantBreaks(t, inner, vote(base+3, base+6), false, "of 3 to 6 itself")
	}
}

// P14.1: the widest and the narrowest ones.
func TestBreaksEdges(t *testing.T) {
	wantBreaks(t, vote(0, mostEpoch), vote(1, mostEpoch-1), true, "the widest one that may be")
	wantBreaks(t, vote(0, mostEpoch), vote(mostEpoch-2, mostEpoch-1), true, "the widest one that may be")
	wantBreaks(t, vote(0, mostEpoch), vote(0, mostEpoch-1), false, "of one source's epoch")
	wantBreaks(t, vote(0, mostEpoch), vote(1, mostEpoch), true, "of one target's epoch")
	wantBreaks(t, vote(0, math.MaxUint64), vote(1, math.MaxUint64-1), true, "the widest one")
	wantBreaks(t, vote(0, math.MaxUint64), vote(mostEpoch, mostEpoch), true, "the widest one")
	wantBreaks(t, vote(0, math.MaxUint64), vote(math.MaxUint64, 0), true, "the widest one, and back")
	wantBreaks(t, vote(1<<63, 1<<63+3), vote(1, 2), false, "epochs apart by 2^63")
	wantBreaks(t, vote(1, 1<<63+3), vote(1<<63, 1<<63+1), true, "epochs apart by 2^63")
	wantBreaks(t, vote(1, 2), vote(0, 1<<32+1), true, "epochs whose lower halves are apart otherwise")
	wantBreaks(t, vote(1, 2), vote(0, 1<<32+2), true, "epochs whose lower halves are the same")
	wantBreaks(t, vote(5, 9), vote(1<<32+6, 1<<32+8), false, "epochs whose lower halves lie within")
	// Of a link that goes back, too, the words alone count.
	wantBreaks(t, vote(1, 9), vote(5, 3), true, "one that goes back, within")
	wantBreaks(t, vote(9, 1), vote(5, 3), true, "two that go back: 5 is below 9, 3 above 1")
	wantBreaks(t, vote(9, 3), vote(5, 1), false, "two that go back")
}

// P14.1, P14.3: all pairs of few epochs and names, and of epochs at the edges.
func TestBreaksAll(t *testing.T) {
	count := map[bool]int{}
	for _, epochs := range [][]uint64{{0, 1, 2, 3, 4}, {0, 1, mostEpoch - 1, mostEpoch}, {0, 1 << 32, 1<<32 + 1, 1<<63 - 1, 1 << 63, math.MaxUint64 - 1, math.MaxUint64}} {
		var l []api.Vote
		for _, source := range epochs {
			for _, target := range epochs {
				l = append(l, link(named(source, 1), named(target, 1)), link(named(source, 2), named(target, 1)), link(named(source, 1), named(target, 2)))
			}
		}
		for _, a := range l {
			for _, b := range l {
				count[holdBreaks(t, a, b)]++
			}
		}
	}
	if count[true] < 5000 || count[false] < 5000 {
		t.Error(count)
	}
}

// P14.1: what is handed in is not changed.
func TestBreaksHandedIn(t *testing.T) {
	sig := append(make([]byte, 0, 64), "some sig"...)
	a, b := vote(5, 9), vote(6, 8)
	a.Sig, b.Sig = sig, sig
	if !Breaks(a, b) || !bytes.Equal(sig, []byte("some sig")) || !bytes.Equal(sig[8:64], make([]byte, 56)) {
		t.Error("what was handed in was changed")
	}
}
