package registry

import (
	"math"
	"math/rand/v2"
	"reflect"
	"slices"
	"testing"

	"landmark/api"
)

// anchorOf is an anchor of so many validators, of stakes 1, 2, 3, ..
func anchorOf(count int) api.Anchor {
	a := api.Anchor{Point: api.Point{Epoch: 5, Name: api.Hash{3}}, Churn: 10, Decay: 20}
	for i := range count {
		a.Validators = append(a.Validators, api.Validator{Key: keyOf(i + 1), Stake: uint64(i + 1)})
	}
	return a
}

// anchorCases are anchors of three with one thing changed, and whether they may be.
func anchorCases() []struct {
	may    bool
	change func(a *api.Anchor)
} {
	return []struct {
		may    bool
		change func(a *api.Anchor)
	}{
		{true, func(a *api.Anchor) {}},
		{false, func(a *api.Anchor) { a.Validators = nil }},
		{false, func(a *api.Anchor) { a.Validators = []api.Validator{} }},
		{true, func(a *api.Anchor) { a.Validators = a.Validators[:1] }},
		{true, func(a *api.Anchor) { a.Validators = anchorOf(64).Validators }},
		{false, func(a *api.Anchor) { a.Validators = anchorOf(65).Validators }},
		{false, func(a *api.Anchor) { a.Validators[2].Key = a.Validators[0].Key }},
		{false, func(a *api.Anchor) { a.Validators[1] = a.Validators[0] }},
		{false, func(a *api.Anchor) { a.Validators[0].Key, a.Validators[2].Key = api.Hash{}, api.Hash{} }},
		{true, func(a *api.Anchor) { a.Validators[1].Key = api.Hash{} }},
		{true, func(a *api.Anchor) { a.Validators[1].Stake = a.Validators[0].Stake }},
		{false, func(a *api.Anchor) { a.Validators[0].Stake = 0 }},
		{false, func(a *api.Anchor) { a.Validators[2].Stake = 0 }},
		{true, func(a *api.Anchor) { a.Validators[2].Stake = api.MaxStake }},
		{false, func(a *api.Anchor) { a.Validators[2].Stake = api.MaxStake + 1 }},
		{false, func(a *api.Anchor) { a.Validators[0].Stake = math.MaxUint64 }},
		{false, func(a *api.Anchor) { a.Churn = 0 }},
		{true, func(a *api.Anchor) { a.Churn = 1 }},
		{true, func(a *api.Anchor) { a.Churn = 1 << 62 }},
		{false, func(a *api.Anchor) { a.Churn = 1<<62 + 1 }},
		{false, func(a *api.Anchor) { a.Churn = math.MaxUint64 }},
		{true, func(a *api.Anchor) { a.Decay = 0 }},
		{true, func(a *api.Anchor) { a.Decay = 1 << 62 }},
		{false, func(a *api.Anchor) { a.Decay = 1<<62 + 1 }},
		{true, func(a *api.Anchor) { a.Point = api.Point{} }},
		{true, func(a *api.Anchor) { a.Point.Epoch = api.MaxEpoch }},
		{false, func(a *api.Anchor) { a.Point.Epoch = api.MaxEpoch + 1 }},
	}
}

// P11.1: whether an anchor may be; and of one that may be all validators are active, by their numbers, and nobody comes or goes.
func TestFirst(t *testing.T) {
	for i, c := range anchorCases() {
		a := anchorOf(3)
		c.change(&a)
		if got := MayAnchor(a); got != c.may {
			t.Errorf("%d: MayAnchor: %v", i, got)
		}
		r, e := First(a)
		if !c.may {
			if e != api.ErrArg || !reflect.DeepEqual(r, api.Register{}) {
				t.Errorf("%d: First of none that may be: %s, %v", i, told(r), e)
			}
			continue
		}
		want := api.Register{Churn: a.Churn}
		for _, v := range a.Validators {
			want.Members = append(want.Members, api.Member{Key: v.Key, Stake: v.Stake, Status: api.MemberActive})
		}
		if e != api.OK || !same(r, want) || !May(r) {
			t.Errorf("%d: First: %s, %v", i, told(r), e)
		}
		holdLooks(t, r)
	}
	if r, e := First(api.Anchor{}); e != api.ErrArg || MayAnchor(api.Anchor{}) || !reflect.DeepEqual(r, api.Register{}) {
		t.Error("of an anchor of noughts:", r, e)
	}
}

// many is one active member, and so many more of a status.
func many(count int, s api.MemberStatus) api.Register {
	r := register(9, "a1")
	for i := range count {
		r.Members = append(r.Members, api.Member{Key: keyOf(i + 2), Stake: 1, Status: s})
	}
	return lineUp(r)
}

// changed is a register of all statuses, in which a member is changed.
func changed(n int, change func(m *api.Member)) api.Register {
	r := register(9, "a4 c5 g6 x7 a8! c9")
	change(&r.Members[n-1])
	return r
}

// mayCase is a register, and whether it may be.
type mayCase struct {
	may bool
	r   api.Register
}

// mayCases are registers of each thing that the chapter names, at its bounds and beyond them, by itself.
func mayCases() []mayCase {
	base := register(9, "a4 c5 g6 x7 a8! c9")
	return []mayCase{
		{true, base},
		{false, api.Register{}},
		{false, api.Register{Churn: 9}},
		{false, api.Register{Members: []api.Member{}, Churn: 9}},
		{true, register(9, "a1")},
		// How many there may be.
		{true, many(63, api.MemberActive)}, {true, many(63, api.MemberComing)}, {true, many(63, api.MemberGone)},
		{false, many(64, api.MemberActive)}, {false, many(64, api.MemberGoing)}, {false, many(64, api.MemberGone)},
		// Keys that are alike, of members beside each other and not, of whatever status; a key of noughts.
		{false, changed(2, func(m *api.Member) { m.Key = keyOf(1) })},
		{false, changed(6, func(m *api.Member) { m.Key = keyOf(1) })},
		{false, changed(4, func(m *api.Member) { m.Key = keyOf(3) })},
		{true, changed(4, func(m *api.Member) { m.Key = api.Hash{} })},
		{true, changed(1, func(m *api.Member) { m.Key = api.Hash{} })},
		// Stakes.
		{true, changed(1, func(m *api.Member) { m.Stake = 1 })},
		{false, changed(1, func(m *api.Member) { m.Stake = 0 })},
		{false, changed(4, func(m *api.Member) { m.Stake = 0 })},
		{false, changed(6, func(m *api.Member) { m.Stake = 0 })},
		{true, changed(1, func(m *api.Member) { m.Stake = api.MaxStake })},
		{true, changed(6, func(m *api.Member) { m.Stake = api.MaxStake })},
		{false, changed(1, func(m *api.Member) { m.Stake = api.MaxStake + 1 })},
		{false, changed(4, func(m *api.Member) { m.Stake = math.MaxUint64 })},
		// Statuses that are none, of somebody who is in no line.
		{false, changed(1, func(m *api.Member) { m.Status = 0 })},
		{false, changed(4, func(m *api.Member) { m.Status = 5 })},
		{false, changed(5, func(m *api.Member) { m.Status = -1 })},
		{false, changed(5, func(m *api.Member) { m.Status = math.MinInt })},
		// Marks, of anybody.
		{true, register(9, "a4! c5! g6! x7!")},
		// Another status than the lines tell.
		{true, changed(1, func(m *api.Member) { m.Status = api.MemberGone })},
		{false, changed(1, func(m *api.Member) { m.Status = api.MemberComing })},
		{false, changed(1, func(m *api.Member) { m.Status = api.MemberGoing })},
		{false, changed(2, func(m *api.Member) { m.Status = api.MemberActive })},
		{false, changed(2, func(m *api.Member) { m.Status = api.MemberGoing })},
		{false, changed(3, func(m *api.Member) { m.Status = api.MemberComing })},
		{false, changed(3, func(m *api.Member) { m.Status = api.MemberGone })},
		// Lines: their order is free.
		{true, lined(base, []int{6, 2}, []int{3})},
		{false, lined(base, []int{3}, []int{6, 2})},
		{false, lined(base, []int{2}, []int{3})},
		{false, lined(base, []int{2, 2}, []int{3})},
		{false, lined(base, []int{2, 6, 2}, []int{3})},
		{false, lined(base, []int{2, 6, 6}, []int{3})},
		{false, lined(base, nil, []int{3})},
		{false, lined(base, []int{2, 6}, nil)},
		{false, lined(base, []int{2, 6}, []int{3, 3})},
		{false, lined(base, []int{2, 6, 3}, []int{3})},
		{false, lined(base, []int{2, 6}, []int{3, 2})},
		{false, lined(base, []int{2, 6, 1}, []int{3})},
		{false, lined(base, []int{2, 1}, []int{3})},
		{false, lined(base, []int{2, 6}, []int{4})},
		{false, lined(base, []int{2, 6, 0}, []int{3})},
		{false, lined(base, []int{2, 6, 7}, []int{3})},
		{false, lined(base, []int{2, 7}, []int{3})},
		{false, lined(base, []int{2, 6}, []int{3, -1})},
		{false, lined(base, []int{2, 6}, []int{math.MinInt})},
		{false, lined(base, []int{2, math.MaxInt}, []int{3})},
		{true, lined(register(9, "a1"), []int{}, []int{})},
		{false, lined(register(9, "a1"), []int{1}, nil)},
		{false, lined(register(9, "a1"), nil, []int{1})},
		// The churn; a stake above it may be.
		{false, register(0, "a4")}, {true, register(1, "a4 c5 g6")}, {true, register(1<<62, "a4")}, {false, register(1<<62+1, "a4")}, {false, register(math.MaxUint64, "a4")},
		// Nobody of MemberActive.
		{false, register(9, "g4")}, {false, register(9, "c5 g6 x7 g6")}, {true, register(9, "c5 g6 x7 a1")}, {false, register(9, "x1")},
	}
}

// P11.1: whether a register may be.
func TestMay(t *testing.T) {
	for i, c := range mayCases() {
		if got := May(c.r); got != c.may || modelMay(c.r) != c.may {
			t.Errorf("%d: %d members, %v, %v, churn %d: %v", i, len(c.r.Members), c.r.Coming, c.r.Going, c.r.Churn, got)
		}
		// Next and Anchor take just those that may be.
		r, e := Next(c.r, api.Header{Epoch: 6}, 5)
		if (e == api.OK) != c.may || !c.may && (e != api.ErrArg || !reflect.DeepEqual(r, api.Register{})) {
			t.Errorf("%d: Next: %v", i, e)
		}
		a, e := Anchor(c.r, api.Point{Epoch: 6}, 5)
		if (e == api.OK) != c.may || !c.may && (e != api.ErrArg || !reflect.DeepEqual(a, api.Anchor{})) {
			t.Errorf("%d: Anchor: %v", i, e)
		}
	}
}

// P11.1: registers that are mostly such as may be, and some with a thing changed by chance.
func TestMayByChance(t *testing.T) {
	source := rand.New(rand.NewPCG(11, 1))
	may := 0
	for range 20000 {
		r := someRegister(source)
		if !May(r) {
			t.Fatalf("%s: may not be", told(r))
		}
		for range source.IntN(3) {
			perturb(source, &r)
		}
		if got := May(r); got != modelMay(r) {
			t.Fatalf("%v: %v", r, got)
		} else if got {
			may++
		}
	}
	if may < 4000 || may > 16000 {
		t.Error("how many may be:", may)
	}
}

// perturb changes one thing.
func perturb(source *rand.Rand, r *api.Register) {
	i := source.IntN(len(r.Members))
	line := &r.Coming
	if source.IntN(2) == 0 {
		line = &r.Going
	}
	switch source.IntN(7) {
	case 0:
		r.Members[i].Status = api.MemberStatus(source.IntN(6))
	case 1:
		r.Members[i].Key = keyOf(source.IntN(11))
	case 2:
		r.Members[i].Stake = source.Uint64N(3)
	case 3:
		*line = append(*line, source.IntN(len(r.Members)+2))
	case 4:
		*line = slices.Delete(*line, 0, min(1, len(*line)))
	case 5:
		r.Coming, r.Going = r.Going, r.Coming
	default:
		r.Churn = source.Uint64N(4)
	}
}

// A line of very many is told at once.
func TestMayOfLongLines(t *testing.T) {
	long := make([]int, 1<<22)
	for i := range long {
		long[i] = -i
	}
	for _, r := range []api.Register{lined(register(9, "a1"), long, nil), lined(register(9, "a1"), nil, long), {Members: make([]api.Member, 1<<20), Churn: 1}} {
		if May(r) {
			t.Error("a register of very many may be")
		}
	}
}
