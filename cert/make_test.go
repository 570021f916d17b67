package cert

import (
	"math/rand/v2"
	"slices"
	"testing"

	"landmark/api"
)

// The chapter's example.
func TestExample(t *testing.T) {
	if !Quorum(2, 3) || Quorum(1, 2) || !Quorum(0, 0) {
		t.Error("Quorum")
	}
	r, l := register(1, 1, 1), ordinary()
	wantMade(t, r, l, votes(l, 1, 2), "two votes", 1, 2)
	wantNone(t, r, l, votes(l, 1), api.ErrNone, "one vote")
}

// P15.1: a register that may not be, for each reason: with right votes, with wrong ones, with none, of a link that may not be, too.
func TestMakeWrongRegister(t *testing.T) {
	l := ordinary()
	right := register(1000, 1000, 1000, 10, 10)
	wantMade(t, right, l, votes(l, 1, 2, 3), "a right register", 1, 2, 3)
	for name, r := range wrongRegisters() {
		wantNone(t, r, l, votes(l, 1, 2, 3), api.ErrArg, name)
		wantNone(t, r, l, votes(l, 1, 2, 3, 4, 5), api.ErrArg, name)
		wantNone(t, r, l, []api.Vote{bare(1, l)}, api.ErrArg, name+", and no quorum")
		wantNone(t, r, l, nil, api.ErrArg, name+", and no vote")
		wantNone(t, r, wrongLinks()[0], votes(l, 1, 2, 3), api.ErrArg, name+", and a point that may not be")
		holdCheck(t, r, cert(l, 1, 2, 3), api.ErrArg, name)
		if s := Stake(r, cert(l, 1, 2, 3)); s != 0 {
			t.Errorf("%s: Stake %d", name, s)
		}
	}
}

// P15.1: a link a point of which may not be, or both; one at the edge.
func TestMakeWrongLink(t *testing.T) {
	r := register(1, 1, 1)
	for _, l := range wrongLinks() {
		for _, given := range [][]api.Vote{nil, votes(l, 1, 2, 3), votes(ordinary(), 1, 2, 3), {bare(1, l)}} {
			wantNone(t, r, l, given, api.ErrArg, "a point that may not be")
		}
	}
	for _, l := range []api.Link{{}, {Source: at(mostEpoch), Target: at(mostEpoch)}, {Source: at(0), Target: at(mostEpoch)}, {Source: at(mostEpoch), Target: at(0)}, {Source: at(7), Target: at(7)}, {Target: api.Point{Epoch: 1<<32 + 3, Name: allOf(255)}}} {
		wantMade(t, r, l, votes(l, 1, 2, 3), "a link at the edge", 1, 2, 3)
		wantNone(t, r, l, votes(ordinary(), 1, 2, 3), api.ErrNone, "votes of another link")
	}
	for epoch := range uint64(35) {
		l := api.Link{Source: at(5), Target: at(epoch)}
		wantMade(t, r, l, votes(l, 3, 1), "a target of each number", 1, 3)
	}
}

// P15.1: no vote, nil or empty.
func TestMakeNoVote(t *testing.T) {
	r, l := register(1, 1, 1), ordinary()
	wantNone(t, r, l, nil, api.ErrNone, "nil")
	wantNone(t, r, l, []api.Vote{}, api.ErrNone, "empty")
	if c, e := Make(r, l); e != api.ErrNone || !isNone(c) {
		t.Error(c, e)
	}
	wantNone(t, r, l, make([]api.Vote, 9), api.ErrNone, "zero ones")
}

// wrongIn are votes that do not count in the register mixed, of the link: of a number, each lacks one thing.
func wrongIn(n int, l api.Link) map[string]api.Vote {
	wrong := wrongVotes(n, l)
	for name, sig := range wrongSigs(n, l) {
		wrong["not signed: "+name] = changed(bare(n, l), func(v *api.Vote) { v.Sig = sig })
	}
	for part, change := range partChanges() {
		wrong["of another link: "+part] = vote(n, changed(l, change))
	}
	wrong["of another link: back"] = vote(n, api.Link{Source: l.Target, Target: l.Source})
	wrong["of another link: none"] = vote(n, api.Link{})
	wrong["another one's name on it"] = changed(vote(n, l), func(v *api.Vote) { v.Validator = n%3 + 1 })
	wrong["by another key"] = signedBy(n%3+1, bare(n, l))
	wrong["who is gone"] = vote(4, l)
	wrong["who comes"] = vote(5, l)
	wrong["who is no member"] = vote(7, l)
	wrong["who is no member, with another one's key"] = signedBy(n, bare(7, l))
	wrong["the last number"] = signedBy(n, bare(64, l))
	return wrong
}

// P15.1: each vote that does not count, beside votes that are right, at each place; and alone in the place of one that is needed.
func TestMakeWrongVotes(t *testing.T) {
	r, l := mixed(), ordinary()
	right := votes(l, 1, 2, 3)
	wantMade(t, r, l, right, "right votes", 1, 2, 3)
	for n := 1; n <= 3; n++ {
		for name, wrong := range wrongIn(n, l) {
			for place := range len(right) + 1 {
				wantMade(t, r, l, slices.Insert(slices.Clone(right), place, wrong), name, 1, 2, 3)
			}
			needed := slices.Clone(right)
			needed[n-1] = wrong
			wantNone(t, r, l, needed, api.ErrNone, name+", in the place of a right one")
		}
	}
	// All of them at once, ahead and behind, and in between.
	var all []api.Vote
	for n := 1; n <= 3; n++ {
		for _, wrong := range wrongIn(n, l) {
			all = append(all, wrong)
		}
	}
	wantMade(t, r, l, slices.Concat(all, right, all), "all wrong ones", 1, 2, 3)
	wantMade(t, r, l, slices.Concat(right[:1], all, right[1:2], all, right[2:]), "all wrong ones", 1, 2, 3)
	wantNone(t, r, l, all, api.ErrNone, "wrong ones alone")
}

// P15.1: each status of a member: who goes, or is marked, counts still, among the votes and in the total; who comes, and who is gone, does in neither.
func TestMakeStatus(t *testing.T) {
	l := ordinary()
	for s, counts := range map[api.MemberStatus]bool{api.MemberComing: false, api.MemberActive: true, api.MemberGoing: true, api.MemberGone: false} {
		for _, isMarked := range []bool{false, true} {
			r := standing(register(1, 1, 4), 3, s)
			r.Members[2].Marked = isMarked
			if counts {
				wantMade(t, r, l, votes(l, 3), "who counts", 3)
				wantNone(t, r, l, votes(l, 1, 2), api.ErrNone, "without who counts")
				wantMade(t, r, l, votes(l, 1, 2, 3), "with who counts", 1, 2, 3)
				holdSigned(t, r, vote(3, l), api.OK, "who counts")
				continue
			}
			wantNone(t, r, l, votes(l, 3), api.ErrNone, "who does not count")
			wantMade(t, r, l, votes(l, 1, 2, 3), "with who does not count", 1, 2)
			wantNone(t, r, l, votes(l, 1, 3), api.ErrNone, "with who does not count")
			holdSigned(t, r, vote(3, l), api.ErrIdle, "who does not count")
		}
	}
}

// P15.1: of each validator the first vote that lacks nothing: wrong ones stand ahead, and others, whose signatures differ, behind.
func TestMakeFirst(t *testing.T) {
	r, l := register(1, 1, 1), ordinary()
	for name, sig := range wrongSigs(1, l) {
		wrong := changed(bare(1, l), func(v *api.Vote) { v.Sig = sig })
		right, other := vote(1, l), vote(3, l)
		wantMade(t, r, l, []api.Vote{wrong, right, other}, name+", ahead", 1, 3)
		wantMade(t, r, l, []api.Vote{right, wrong, other}, name+", behind", 1, 3)
		wantMade(t, r, l, []api.Vote{wrong, other, wrong, right, wrong}, name+", on both sides", 1, 3)
		wantNone(t, r, l, []api.Vote{wrong, other, wrong}, api.ErrNone, name+", without a right one")
	}
	// Who votes twice, or thrice, holds its stake once.
	wantNone(t, r, l, votes(l, 1, 1), api.ErrNone, "one validator twice")
	wantNone(t, r, l, votes(l, 2, 2, 2, 2), api.ErrNone, "one validator often")
	wantMade(t, r, l, votes(l, 2, 1, 2, 1, 2), "two validators often", 1, 2)
	// A vote of another link of the same validator takes no place, and takes none away.
	other := changed(l, func(l *api.Link) { l.Target.Name = allOf(3) })
	wantMade(t, r, l, slices.Concat(votes(other, 1, 2, 3), votes(l, 3, 2), votes(other, 1, 2)), "two links", 2, 3)
	wantMade(t, r, other, slices.Concat(votes(other, 1, 2, 3), votes(l, 3, 2), votes(other, 1, 2)), "two links", 1, 2, 3)
}

// P15.1: votes in each order; what comes is by rising validators.
func TestMakeOrder(t *testing.T) {
	r, l := register(1, 1, 1, 1), ordinary()
	var orders func(front, rest []int)
	orders = func(front, rest []int) {
		if len(rest) == 0 {
			wantMade(t, r, l, votes(l, front...), "another order", slices.Sorted(slices.Values(front))...)
		}
		for i, n := range rest {
			orders(append(slices.Clone(front), n), slices.Delete(slices.Clone(rest), i, i+1))
		}
	}
	orders(nil, []int{1, 2, 3, 4})
	orders(nil, []int{1, 3, 4})
	source := rand.New(rand.NewPCG(15, 1))
	all := register(equals(64, 1)...)
	for range 3 {
		numbers := numbersTo(64)
		shuffle(source, numbers)
		wantMade(t, all, l, votes(l, numbers...), "all 64", numbersTo(64)...)
		wantMade(t, all, l, votes(l, numbers[:43]...), "43 of 64", slices.Sorted(slices.Values(numbers[:43]))...)
		wantNone(t, all, l, votes(l, numbers[:42]...), api.ErrNone, "42 of 64")
	}
}

// P15.1: just two thirds, one stake below, one above.
func TestMakeQuorum(t *testing.T) {
	const most = 1 << 32
	l := ordinary()
	for _, given := range []struct {
		signed []uint64
		others []uint64
		want   bool
	}{
		{[]uint64{1}, nil, true}, {[]uint64{2}, []uint64{1}, true}, {[]uint64{1}, []uint64{1}, false}, {[]uint64{1}, []uint64{1, 1}, false},
		{[]uint64{2000}, []uint64{1000}, true}, {[]uint64{1999}, []uint64{1001}, false}, {[]uint64{2001}, []uint64{999}, true},
		{[]uint64{1999}, []uint64{1000}, false}, {[]uint64{2000}, []uint64{1001}, false}, {[]uint64{2001}, []uint64{1000}, true}, {[]uint64{2000}, []uint64{999}, true},
		{[]uint64{1000, 1000}, []uint64{500, 500}, true}, {[]uint64{1000, 999}, []uint64{501, 500}, false}, {[]uint64{1, 1999}, []uint64{1000}, true},
		{[]uint64{most, most}, []uint64{most}, true}, {[]uint64{most, most - 1}, []uint64{most}, false}, {[]uint64{most, most}, []uint64{most - 1}, true}, {[]uint64{most - 1, most - 1}, []uint64{most - 1}, true},
		{[]uint64{most}, []uint64{most / 2}, true}, {[]uint64{most}, []uint64{most/2 + 1}, false}, {[]uint64{most - 1}, []uint64{most / 2}, false},
		{equals(42, most), equals(21, most), true}, {append(equals(41, most), most-1), equals(21, most), false}, {equals(42, most), append(equals(20, most), most-1), true},
		{equals(43, most), equals(21, most), true}, {equals(42, most), equals(22, most), false}, {equals(64, most), nil, true},
		{append(equals(41, most), most/2, most/2), equals(21, most), true}, {append(equals(41, most), most/2, most/2-1), equals(21, most), false}, {append(equals(41, most), most/2, most/2), append(equals(20, most), most-1), true},
	} {
		r := register(append(slices.Clone(given.signed), given.others...)...)
		numbers := numbersTo(len(given.signed))
		if given.want {
			wantMade(t, r, l, votes(l, numbers...), "a quorum", numbers...)
			holdCheck(t, r, cert(l, numbers...), api.OK, "a quorum")
		} else {
			wantNone(t, r, l, votes(l, numbers...), api.ErrNone, "no quorum")
			holdCheck(t, r, cert(l, numbers...), api.ErrNone, "no quorum")
		}
	}
}

// P15.1: lists by chance, of right votes and wrong ones, in registers of all statuses.
func TestMakeByChance(t *testing.T) {
	source := rand.New(rand.NewPCG(15, 2))
	l, count := ordinary(), map[api.Errno]int{}
	other := changed(l, func(l *api.Link) { l.Source.Name = allOf(4) })
	wrong := map[int][]api.Vote{}
	for n := 1; n <= 6; n++ {
		for _, v := range wrongIn(n, l) {
			wrong[n] = append(wrong[n], v)
		}
	}
	for range 1500 {
		r := someRegister(source)
		var given []api.Vote
		for range source.IntN(12) {
			switch n := 1 + source.IntN(6); source.IntN(6) {
			case 0:
				given = append(given, wrong[n][source.IntN(len(wrong[n]))])
			case 1:
				given = append(given, vote(n, other))
			default:
				given = append(given, vote(n, l))
			}
		}
		_, e := holdMake(t, r, l, given, "by chance")
		count[e]++
	}
	if count[api.OK] < 300 || count[api.ErrNone] < 300 {
		t.Error(count)
	}
}

// someRegister is one that may be, of up to six members of all statuses.
func someRegister(source *rand.Rand) api.Register {
	var stakes []uint64
	for range 1 + source.IntN(6) {
		stakes = append(stakes, 1+source.Uint64N(4))
	}
	r := register(stakes...)
	for n := 2; n <= len(stakes); n++ {
		if source.IntN(3) == 0 {
			r = standing(r, n, api.MemberStatus(1+source.IntN(4)))
			r.Members[n-1].Marked = source.IntN(2) == 0
		}
	}
	return r
}
