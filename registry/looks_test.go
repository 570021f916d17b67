package registry

import (
	"math"
	"math/rand/v2"
	"reflect"
	"slices"
	"testing"

	"landmark/api"
	"landmark/codec"
)

// P11.3: who is active, and with what stake, by numbers at, below and above the members'.
func TestLooks(t *testing.T) {
	r := register(9, "a4 c5 g6 x7 a8! g9! x10! c11!")
	for n, want := range map[int]uint64{
		1: 4, 2: 0, 3: 6, 4: 0, 5: 8, 6: 9, 7: 0, 8: 0,
		9: 0, 0: 0, -1: 0, 64: 0, 65: 0, math.MaxInt: 0, math.MinInt: 0,
	} {
		if Stake(r, n) != want || Active(r, n) != (want > 0) {
			t.Errorf("%d: %d, %v", n, Stake(r, n), Active(r, n))
		}
	}
	if Total(r) != 27 {
		t.Error("Total:", Total(r))
	}
	holdLooks(t, r)
	holdLooks(t, api.Register{})
	if Total(api.Register{}) != 0 || Find(api.Register{}, api.Hash{}) != 0 || Active(api.Register{}, 1) || Stake(api.Register{}, 1) != 0 {
		t.Error("of a register of noughts")
	}
}

// P11.3: the member of a key, of whatever status; the first one of two; 0, if there is none.
func TestFind(t *testing.T) {
	r := register(9, "a4 c5 g6 x7")
	for n := range 4 {
		if got := Find(r, keyOf(n+1)); got != n+1 {
			t.Errorf("%d: %d", n+1, got)
		}
	}
	key := keyOf(2)
	for i := range key {
		other := key
		other[i] ^= 64
		if got := Find(r, other); got != 0 {
			t.Errorf("another key at byte %d: %d", i, got)
		}
	}
	if Find(r, api.Hash{}) != 0 {
		t.Error("a key of noughts, that nobody has")
	}
	r.Members[3].Key = keyOf(2)
	if got := Find(r, keyOf(2)); got != 2 {
		t.Error("a key that stands twice:", got)
	}
	r.Members[2].Key, r.Members[3].Key = api.Hash{}, api.Hash{}
	if got := Find(r, api.Hash{}); got != 3 {
		t.Error("a key of noughts that stands twice:", got)
	}
}

// P11.3: of registers that may not be, too: statuses and stakes that are none, lines that lie, more members than may be.
func TestLooksMayNot(t *testing.T) {
	r := register(0, "a4 c5 g6 x7")
	r.Members = append(r.Members, api.Member{Stake: 50}, api.Member{Stake: 60, Status: 5}, api.Member{Stake: 70, Status: -2}, api.Member{Status: 2}, api.Member{Status: 3, Stake: math.MaxUint64})
	r = lined(r, []int{1, 1, -4, math.MinInt}, []int{99})
	holdLooks(t, r)
	if Total(r) != 9 || !Active(r, 8) || Stake(r, 8) != 0 || Stake(r, 9) != math.MaxUint64 || Active(r, 5) || Active(r, 6) || Active(r, 7) {
		t.Error("Total:", Total(r))
	}
	for count := range 200 {
		holdLooks(t, many(count, api.MemberGoing))
	}
}

// P11.3: sums go round at 2^64.
func TestTotalGoesRound(t *testing.T) {
	for _, c := range []struct {
		members string
		want    uint64
	}{
		{"a18446744073709551615", math.MaxUint64},
		{"a18446744073709551615 g1", 0},
		{"a9223372036854775808 x7 g9223372036854775808 a5", 5},
		{"g18446744073709551615 a18446744073709551615", math.MaxUint64 - 1},
		{"a18446744073709551615 c1 x1", math.MaxUint64},
	} {
		r := register(1, c.members)
		if got := Total(r); got != c.want {
			t.Errorf("%s: %d", c.members, got)
		}
		holdLooks(t, r)
	}
}

// P11.3: by chance, registers of whatever kind.
func TestLooksByChance(t *testing.T) {
	source := rand.New(rand.NewPCG(11, 4))
	for range 5000 {
		r := someRegister(source)
		for range source.IntN(3) {
			perturb(source, &r)
		}
		holdLooks(t, r)
	}
}

// holdAnchor wants Anchor to tell what the chapter does: an anchor of the active ones in order, if the register and it may be.
func holdAnchor(t *testing.T, r api.Register, p api.Point, decay uint64) (api.Anchor, api.Errno) {
	t.Helper()
	before, active := copyOf(r), modelVotes(r)
	want, code := api.Anchor{Point: p, Churn: r.Churn, Decay: decay}, api.OK
	for n := range r.Members {
		if m, isActive := active[n+1]; isActive {
			want.Validators = append(want.Validators, api.Validator{Key: m.Key, Stake: m.Stake})
		}
	}
	if !modelMay(r) || !codec.MayAnchor(want) {
		want, code = api.Anchor{}, api.ErrArg
	}
	for range 2 {
		got, e := Anchor(r, p, decay)
		if e != code || !reflect.DeepEqual(got, want) {
			t.Fatalf("Anchor of %s: %v, %v; want %v, %v", told(r), got, e, want, code)
		}
		for i := range got.Validators {
			got.Validators[i] = api.Validator{}
		}
		if !same(r, before) {
			t.Fatal("Anchor has changed the register, or shares it")
		}
	}
	return want, code
}

// P11.3: an anchor of the active ones, by their numbers; its register has them, and the same churn.
func TestAnchor(t *testing.T) {
	p := api.Point{Epoch: 9, Name: api.Hash{2}}
	a, e := holdAnchor(t, register(7, "c1 a4 x2 g3 g5! c6 a9!"), p, 8)
	want := []api.Validator{{Key: keyOf(2), Stake: 4}, {Key: keyOf(4), Stake: 3}, {Key: keyOf(5), Stake: 5}, {Key: keyOf(7), Stake: 9}}
	if e != api.OK || a.Point != p || a.Churn != 7 || a.Decay != 8 || !slices.Equal(a.Validators, want) {
		t.Fatal(a, e)
	}
	r, e := First(a)
	if e != api.OK || told(r) != "a4 a3 a5 a9[] []" || r.Churn != 7 {
		t.Error(told(r), e)
	}
	// The lines' order is free, and is no matter of the anchor's.
	if b, e := holdAnchor(t, lined(register(7, "c1 a4 x2 g3 g5! c6 a9!"), []int{6, 1}, []int{5, 4}), p, 8); e != api.OK || !codec.SameAnchor(a, b) {
		t.Error(b, e)
	}
}

// P11.3: checkpoints and decays of which no anchor may be, and such at the bounds of which one may; registers at the bounds.
func TestAnchorBounds(t *testing.T) {
	well := register(9, "a4 a5 g6 c7 x8!")
	for i, c := range []struct {
		r     api.Register
		epoch uint64
		decay uint64
		want  api.Errno
	}{
		{well, 0, 0, api.OK},
		{well, api.MaxEpoch, 1 << 62, api.OK},
		{well, api.MaxEpoch + 1, 0, api.ErrArg},
		{well, math.MaxUint64, 0, api.ErrArg},
		{well, 0, 1<<62 + 1, api.ErrArg},
		{well, 0, math.MaxUint64, api.ErrArg},
		{well, api.MaxEpoch + 1, 1<<62 + 1, api.ErrArg},
		{register(9, "g4"), api.MaxEpoch + 1, 1<<62 + 1, api.ErrArg},
		{register(1, "a4"), 0, 0, api.OK},
		{register(1<<62, "a4"), 0, 0, api.OK},
		{register(9, "a4294967296 x4294967296"), 0, 0, api.OK},
		{many(63, api.MemberActive), 0, 0, api.OK},
		{many(63, api.MemberGoing), 0, 0, api.OK},
		{many(63, api.MemberGone), 0, 0, api.OK},
	} {
		if a, e := holdAnchor(t, c.r, api.Point{Epoch: c.epoch, Name: api.Hash{1}}, c.decay); e != c.want {
			t.Errorf("%d: %s: %v, %v; want %v", i, told(c.r), a, e, c.want)
		}
	}
}

// P11.3: of a register that may not be there is no anchor, also where its active ones, its churn, the checkpoint and the decay would make one.
func TestAnchorOfNoRegister(t *testing.T) {
	for _, c := range mayCases() {
		if c.may {
			continue
		}
		for _, p := range []api.Point{{}, {Epoch: 9, Name: api.Hash{1}}} {
			if a, e := holdAnchor(t, c.r, p, 7); e != api.ErrArg {
				t.Errorf("%s: %v, %v", told(c.r), a, e)
			}
		}
	}
	// The looks of the same promise take it still.
	r := lined(register(1, "a4"), nil, []int{0})
	if !Active(r, 1) || Total(r) != 4 || Stake(r, 1) != 4 || Find(r, keyOf(1)) != 1 || May(r) {
		t.Error("a line that names nobody: Active, Total, Stake, Find, May")
	}
}

// P11.3: by chance, registers of which some may not be, with checkpoints and decays of which some may not be.
func TestAnchorByChance(t *testing.T) {
	source := rand.New(rand.NewPCG(11, 6))
	// far is mostly from 0 to 2^62, and sometimes above.
	far := func() uint64 { return source.Uint64N(1<<62 + 1<<59) }
	isAnchor, byRegister := 0, 0
	for range 20000 {
		r := someRegister(source)
		for range source.IntN(3) {
			perturb(source, &r)
		}
		p, decay := api.Point{Epoch: far(), Name: api.Hash{1}}, far()
		_, e := holdAnchor(t, r, p, decay)
		switch {
		case e == api.OK:
			isAnchor++
		case p.Epoch <= api.MaxEpoch && decay <= 1<<62:
			byRegister++
		}
	}
	if isAnchor < 4000 || byRegister < 4000 {
		t.Error("how many are anchors, and how many are none by the register alone:", isAnchor, byRegister)
	}
}
