package registry

import (
	"math"
	"math/rand/v2"
	"strings"
	"testing"

	"landmark/api"
)

// step is a header's operations, so many epochs behind the parent, and what comes of them: a register as told tells it, or an error.
type step struct {
	churn   uint64
	members string
	epochs  uint64
	ops     []api.HeaderOp
	want    string
	code    api.Errno
}

// hold wants each step to come to what it says, and to what the model says.
func hold(t *testing.T, steps []step) {
	t.Helper()
	for i, s := range steps {
		r, e := next(t, register(s.churn, s.members), s.epochs, s.ops...)
		if e != s.code || e == api.OK && told(r) != s.want {
			t.Errorf("%d: %s, %v:\n%s, %v; want\n%s, %v", i, s.members, s.ops, told(r), e, s.want, s.code)
		}
	}
}

// The chapter's example.
func TestExample(t *testing.T) {
	r, e := next(t, register(10, "a10 a20"), 1, exitOf(1))
	if e != api.OK || told(r) != "g10 a20[] [1]" {
		t.Fatal(told(r), e)
	}
	r, e = next(t, r, 1)
	if e != api.OK || told(r) != "x10 a20[] []" {
		t.Error(told(r), e)
	}
}

// P11.2: a header without operations, and nobody in line: all stays as it is, however many epochs there are.
func TestNextOfNothing(t *testing.T) {
	for _, epochs := range []uint64{1, 2, 255, 1 << 32, api.MaxEpoch - 5} {
		for _, members := range []string{"a1", "a1 a2! x3 x4!", "x1 a2"} {
			r := register(3, members)
			for _, l := range [][]api.HeaderOp{nil, {}} {
				if got, e := next(t, r, epochs, l...); e != api.OK || !same(got, r) {
					t.Errorf("%s: %s, %v", members, told(got), e)
				}
			}
		}
	}
}

// P11.2: a parent's epoch is to be below the header's, by one or by whatever more.
func TestNextEpochs(t *testing.T) {
	r := register(3, "a1 c2 g3")
	for _, epoch := range []uint64{1, 2, 7, 1 << 32, api.MaxEpoch - 1, api.MaxEpoch} {
		for _, parent := range []uint64{0, 1, epoch / 2, epoch - 1, epoch, epoch + 1, 2 * epoch, api.MaxEpoch, 1 << 63, math.MaxUint64} {
			_, e := give(t, r, api.Header{Epoch: epoch}, parent)
			want := api.OK
			if parent >= epoch {
				want = api.ErrArg
			}
			if e != want {
				t.Errorf("from %d to %d: %v", parent, epoch, e)
			}
		}
	}
	// Epochs that no header has, also where the parent's is below.
	for _, epoch := range []uint64{0, api.MaxEpoch + 1, 1 << 63, math.MaxUint64} {
		for _, parent := range []uint64{0, 5, api.MaxEpoch, math.MaxUint64} {
			if _, e := give(t, r, api.Header{Epoch: epoch}, parent); e != api.ErrArg {
				t.Errorf("from %d to %d: %v", parent, epoch, e)
			}
		}
	}
}

// wrongOps are operations that may not be, for one reason each.
func wrongOps() []api.HeaderOp {
	one, long := slashOf(1), slashOf(1)
	one.Evidence = one.Evidence[:1]
	long.Evidence[1].Sig = make([]byte, api.MaxSig+1)
	return []api.HeaderOp{
		{}, {Kind: 4}, {Kind: -1, Validator: 1}, depositOf(9, 0), depositOf(9, api.MaxStake+1), {Kind: api.OpDeposit, Key: keyOf(9), Stake: 1, Validator: 1},
		exitOf(0), exitOf(-1), exitOf(65), exitOf(math.MinInt), exitOf(math.MaxInt), {Kind: api.OpExit, Validator: 1, Stake: 1},
		slashOf(0), slashOf(65), one, long, {Kind: api.OpSlash, Validator: 1},
	}
}

// P11.2: a header that may not be, ahead of what else is wrong.
func TestNextMayNot(t *testing.T) {
	r := register(1<<40, "a1 a2 a3")
	for _, op := range wrongOps() {
		for _, l := range [][]api.HeaderOp{ops(op), ops(exitOf(1), op), ops(exitOf(9), op), ops(op, exitOf(9))} {
			if _, e := next(t, r, 1, l...); e != api.ErrArg {
				t.Errorf("%v: %v", l, e)
			}
		}
	}
	var l []api.HeaderOp
	for i := range api.MaxOps + 1 {
		l = append(l, depositOf(i+4, 1))
	}
	if _, e := next(t, r, 1, l...); e != api.ErrArg {
		t.Error("of an operation too many:", e)
	}
	if got, e := next(t, r, 1, l[1:]...); e != api.OK || len(got.Coming) != 16 {
		t.Error("of just as many as may be:", told(got), e)
	}
}

// P11.2: of two errors ErrArg is told first, then that of the first operation that is refused.
func TestNextTwoErrors(t *testing.T) {
	well, none := register(9, "a1 a2"), register(9, "g1 x2")
	for _, c := range []struct {
		r             api.Register
		epoch, parent uint64
		ops           []api.HeaderOp
		want          api.Errno
	}{
		{well, 6, 5, ops(exitOf(7)), api.ErrOp},
		{none, 6, 5, ops(exitOf(7)), api.ErrArg},
		{none, 5, 5, nil, api.ErrArg},
		{well, 5, 5, ops(exitOf(7)), api.ErrArg},
		{well, 4, 5, ops(depositOf(1, 1)), api.ErrArg},
		{well, 6, 5, ops(exitOf(7), exitOf(0)), api.ErrArg},
		{many(63, api.MemberActive), 5, 5, ops(depositOf(99, 1)), api.ErrArg},
		// A member too many, with a known key, or a stake above the churn.
		{many(63, api.MemberActive), 6, 5, ops(depositOf(1, 1)), api.ErrOp},
		{many(63, api.MemberGone), 6, 5, ops(depositOf(64, 1)), api.ErrOp},
		{many(63, api.MemberActive), 6, 5, ops(depositOf(99, 10)), api.ErrOp},
		// The first one that is refused tells.
		{many(63, api.MemberActive), 6, 5, ops(depositOf(99, 1), exitOf(64), exitOf(64)), api.ErrFull},
		{many(63, api.MemberActive), 6, 5, ops(exitOf(64), exitOf(64), depositOf(99, 1)), api.ErrOp},
		{many(62, api.MemberActive), 6, 5, ops(depositOf(99, 1), depositOf(98, 1), depositOf(99, 1)), api.ErrFull},
		{many(62, api.MemberActive), 6, 5, ops(depositOf(99, 1), depositOf(99, 1), depositOf(98, 1)), api.ErrOp},
	} {
		if _, e := give(t, c.r, api.Header{Epoch: c.epoch, Ops: c.ops}, c.parent); e != c.want {
			t.Errorf("%s, %v: %v; want %v", told(c.r), c.ops, e, c.want)
		}
	}
}

// P11.2: deposits.
func TestDeposit(t *testing.T) {
	const most = "4294967296"
	hold(t, []step{
		{10, "a4", 1, ops(depositOf(2, 1)), "a4 c1[2] []", api.OK},
		{10, "a4", 1, ops(depositOf(2, 10)), "a4 c10[2] []", api.OK},
		{10, "a4", 9, ops(depositOf(2, 10)), "a4 c10[2] []", api.OK},
		// Above the churn, whatever the number of epochs is.
		{10, "a4", 1, ops(depositOf(2, 11)), "", api.ErrOp},
		{10, "a4", 9, ops(depositOf(2, 11)), "", api.ErrOp},
		{1, "a4", 1, ops(depositOf(2, 1)), "a4 c1[2] []", api.OK},
		{1, "a4", 1, ops(depositOf(2, 2)), "", api.ErrOp},
		{api.MaxStake - 1, "a4", 1, ops(depositOf(2, api.MaxStake)), "", api.ErrOp},
		{api.MaxStake, "a4", 1, ops(depositOf(2, api.MaxStake)), "a4 c" + most + "[2] []", api.OK},
		{1 << 62, "a4", 1, ops(depositOf(2, api.MaxStake)), "a4 c" + most + "[2] []", api.OK},
		{1 << 62, "a4", 1, ops(depositOf(2, api.MaxStake+1)), "", api.ErrArg},
		{10, "a4", 1, ops(depositOf(2, 0)), "", api.ErrArg},
		// A known key, of a member of whatever status.
		{10, "a4 c5 g6 x7", 1, ops(depositOf(1, 1)), "", api.ErrOp},
		{10, "a4 c5 g6 x7", 1, ops(depositOf(2, 1)), "", api.ErrOp},
		{10, "a4 c5 g6 x7", 1, ops(depositOf(3, 1)), "", api.ErrOp},
		{10, "a4 c5 g6 x7!", 1, ops(depositOf(4, 1)), "", api.ErrOp},
		{10, "a4 c5 g6 x7", 1, ops(depositOf(5, 8)), "a4 a5 x6 x7 c8[5] []", api.OK},
		// At the line's end, behind those who did not fit.
		{10, "a4 c7 c8", 1, ops(depositOf(9, 2)), "a4 a7 c8 c2[3 4] []", api.OK},
		{10, "a4", 1, ops(depositOf(2, 9), depositOf(3, 8), depositOf(4, 9)), "a4 c9 c8 c9[2 3 4] []", api.OK},
		// Twice the same key, or one that is a key by a deposit of the header's own.
		{10, "a4", 1, ops(depositOf(2, 9), depositOf(2, 9)), "", api.ErrOp},
		{10, "a4", 1, ops(depositOf(2, 9), depositOf(3, 9), depositOf(2, 1)), "", api.ErrOp},
	})
	// A key of noughts is one as others are.
	r, e := next(t, register(10, "a4"), 1, api.HeaderOp{Kind: api.OpDeposit, Stake: 3})
	if e != api.OK || told(r) != "a4 c3[2] []" || Find(r, api.Hash{}) != 2 {
		t.Error(told(r), e)
	}
	if _, e = next(t, r, 1, api.HeaderOp{Kind: api.OpDeposit, Stake: 3}); e != api.ErrOp {
		t.Error("twice of noughts:", e)
	}
}

// P11.2: MaxValidators members, and none more, whatever their statuses are.
func TestDepositFull(t *testing.T) {
	for _, s := range []api.MemberStatus{api.MemberComing, api.MemberActive, api.MemberGoing, api.MemberGone} {
		r := many(62, s)
		for _, epochs := range []uint64{1, 1 << 40} {
			full, e := next(t, r, epochs, depositOf(99, 1))
			if e != api.OK || len(full.Members) != 64 || full.Members[63].Status != api.MemberComing {
				t.Fatalf("the last one: %v", e)
			}
			for _, n := range []uint64{1, 100} {
				if _, e := next(t, full, n, depositOf(98, 1)); e != api.ErrFull {
					t.Errorf("one more, of %d: %v", s, e)
				}
			}
			if _, e := next(t, full, 1, depositOf(99, 1)); e != api.ErrOp {
				t.Errorf("of a known key: %v", e)
			}
			if _, e := next(t, full, 1, slashOf(1)); e != api.OK {
				t.Errorf("of a full register, no deposit: %v", e)
			}
		}
		if _, e := next(t, r, 1, depositOf(99, 1), depositOf(98, 1)); e != api.ErrFull {
			t.Errorf("two, where one has room: %v", e)
		}
	}
}

// P11.2: exits.
func TestExit(t *testing.T) {
	hold(t, []step{
		{1, "a4 a5", 1, ops(exitOf(1)), "g4 a5[] [1]", api.OK},
		{1, "a4 a5", 1, ops(exitOf(2)), "a4 g5[] [2]", api.OK},
		{1, "a4! a5", 1, ops(exitOf(1)), "g4! a5[] [1]", api.OK},
		{1, "a4 a5!", 1, ops(exitOf(1)), "g4 a5![] [1]", api.OK},
		// The last one.
		{1, "a4", 1, ops(exitOf(1)), "", api.ErrOp},
		{1, "a4 c5 g6 x7", 1, ops(exitOf(1)), "", api.ErrOp},
		{1, "a4 a5", 1, ops(exitOf(1), exitOf(2)), "", api.ErrOp},
		// No such member; one of another status.
		{1, "a4 a5", 1, ops(exitOf(3)), "", api.ErrOp},
		{1, "a4 a5", 1, ops(exitOf(64)), "", api.ErrOp},
		{1, "a4 a5 c6", 1, ops(exitOf(3)), "", api.ErrOp},
		{1, "a4 a5 g6", 1, ops(exitOf(3)), "", api.ErrOp},
		{1, "a4 a5 x6", 1, ops(exitOf(3)), "", api.ErrOp},
		{1, "a4 a5 a6", 1, ops(exitOf(1), exitOf(1)), "", api.ErrOp},
		// At the line's end, behind those who did not fit; more than fit wait.
		{5, "a4 g5 g6 a7", 1, ops(exitOf(4)), "a4 x5 g6 g7[] [3 4]", api.OK},
		{5, "a4 a5 a6 a7", 1, ops(exitOf(3), exitOf(1), exitOf(4)), "g4 a5 g6 g7[] [3 1 4]", api.OK},
		// Its stake may be above the churn: it waits then.
		{5, "a9 a1", 1, ops(exitOf(1)), "g9 a1[] [1]", api.OK},
		// One who came by this turn may go; so may another one, as this one is there; one who goes by it may not.
		{5, "a4 c5", 1, ops(exitOf(2)), "a4 g5[] [2]", api.OK},
		{5, "a4 c5", 1, ops(exitOf(1)), "g4 a5[] [1]", api.OK},
		{5, "a4 c6", 1, ops(exitOf(1)), "", api.ErrOp},
		{5, "a4 a5 g5", 1, ops(exitOf(3)), "", api.ErrOp},
		// One who comes by a deposit of this header is not active in it.
		{5, "a4", 1, ops(depositOf(2, 5), exitOf(2)), "", api.ErrOp},
		{5, "a4", 1, ops(depositOf(2, 5), exitOf(1)), "", api.ErrOp},
	})
}

// P11.2: who was seen to break the rules.
func TestSlash(t *testing.T) {
	hold(t, []step{
		{1, "a4 a5", 1, ops(slashOf(1)), "g4! a5[] [1]", api.OK},
		{1, "a4 a5", 1, ops(slashOf(2)), "a4 g5![] [2]", api.OK},
		// The last one is marked, and stays.
		{1, "a4", 1, ops(slashOf(1)), "a4![] []", api.OK},
		{1, "a4 c5 g6 x7", 1, ops(slashOf(1)), "a4! c5 g6 x7[2] [3]", api.OK},
		{1, "a4! a5", 1, ops(slashOf(2)), "a4! g5![] [2]", api.OK},
		{1, "a4 a5", 1, ops(slashOf(1), slashOf(2)), "g4! a5![] [1]", api.OK},
		// One who goes is marked, and stays where it is in the line.
		{1, "a4 g5 g6", 1, ops(slashOf(2)), "a4 g5! g6[] [2 3]", api.OK},
		{1, "a4 g5 g6", 1, ops(slashOf(3)), "a4 g5 g6![] [2 3]", api.OK},
		// No such member, one of another status, a marked one.
		{1, "a4 a5", 1, ops(slashOf(3)), "", api.ErrOp},
		{1, "a4 a5", 1, ops(slashOf(64)), "", api.ErrOp},
		{1, "a4 a5 c6", 1, ops(slashOf(3)), "", api.ErrOp},
		{1, "a4 a5 x6", 1, ops(slashOf(3)), "", api.ErrOp},
		{1, "a4 a5!", 1, ops(slashOf(2)), "", api.ErrOp},
		{1, "a4 a5 g6!", 1, ops(slashOf(3)), "", api.ErrOp},
		{1, "a4 a5 c6!", 1, ops(slashOf(3)), "", api.ErrOp},
		{1, "a4 a5 x6!", 1, ops(slashOf(3)), "", api.ErrOp},
		{1, "a4 a5", 1, ops(slashOf(1), slashOf(1)), "", api.ErrOp},
		{1, "a4!", 1, ops(slashOf(1)), "", api.ErrOp},
		// One who came by this turn may be seen; one who is gone by it no more.
		{5, "a4 c5", 1, ops(slashOf(2)), "a4 g5![] [2]", api.OK},
		{5, "a4 c5", 1, ops(slashOf(1)), "g4! a5[] [1]", api.OK},
		{5, "a4 g5", 1, ops(slashOf(2)), "", api.ErrOp},
		{4, "a4 g5", 1, ops(slashOf(2)), "a4 g5![] [2]", api.OK},
		{5, "a4", 1, ops(depositOf(2, 5), slashOf(2)), "", api.ErrOp},
		// Behind an exit, and ahead of it.
		{1, "a4 a5", 1, ops(exitOf(1), slashOf(1)), "g4! a5[] [1]", api.OK},
		{1, "a4 a5 a6", 1, ops(slashOf(1), exitOf(1)), "", api.ErrOp},
		{1, "a4 a5 a6", 1, ops(slashOf(1), exitOf(2)), "g4! g5 a6[] [1 2]", api.OK},
		{1, "a4 a5", 1, ops(exitOf(1), slashOf(2)), "g4 a5![] [1]", api.OK},
		{1, "a4 a5", 1, ops(slashOf(1), exitOf(2)), "", api.ErrOp},
	})
}

// P11.2: the evidence is looked at by nobody here: whosever votes they are, and whatever they are of.
func TestSlashEvidence(t *testing.T) {
	for _, l := range [][]api.Vote{
		{voteOf(1), voteOf(1)}, {voteOf(64), voteOf(3)}, {{Validator: 2}, {Validator: 2}},
	} {
		op := api.HeaderOp{Kind: api.OpSlash, Validator: 2, Evidence: l}
		if r, e := next(t, register(1, "a4 a5"), 1, op); e != api.OK || told(r) != "a4 g5![] [2]" {
			t.Errorf("%v: %s, %v", l, told(r), e)
		}
	}
}

// P11.2: what is refused at last changes nothing, whatever was taken ahead of it.
func TestNextLaterRefused(t *testing.T) {
	r := register(10, "a4 a5 a6 c7 g8")
	taken := ops(depositOf(9, 3), exitOf(1), slashOf(2), depositOf(8, 10), slashOf(1))
	for i := range len(taken) + 1 {
		if _, e := next(t, r, 1, taken[:i]...); e != api.OK {
			t.Fatal(i, e)
		}
		for _, op := range ops(depositOf(9, 11), depositOf(1, 1), exitOf(5), slashOf(5), exitOf(60)) {
			if got, e := next(t, r, 1, append(taken[:i:i], op)...); e != api.ErrOp {
				t.Errorf("%v behind %d: %s, %v", op, i, told(got), e)
			}
		}
	}
	hold(t, []step{{10, "a4 a5 a6 c7 g8", 1, taken, "g4! g5! a6 a7 x8 c3 c10[6 7] [1 2]", api.OK}})
}

// P11.2: by chance, each register that may be, and headers of which some are refused.
func TestNextByChance(t *testing.T) {
	source := rand.New(rand.NewPCG(11, 2))
	codes := map[api.Errno]int{}
	for range 30000 {
		r := someRegister(source)
		h := api.Header{Epoch: 1 + source.Uint64N(9), Ops: someOps(source, r, 4)}
		_, e := give(t, r, h, source.Uint64N(h.Epoch))
		codes[e]++
	}
	if codes[api.OK] < 5000 || codes[api.ErrOp] < 5000 {
		t.Error("what came of them:", codes)
	}
}

// P11.2: a whole line of sixteen, gone over by headers of sixteen operations.
func TestNextMany(t *testing.T) {
	r := register(2, strings.Repeat("a1 ", 16)+"a1")
	var l []api.HeaderOp
	for i := range 16 {
		l = append(l, exitOf(16-i))
	}
	r, e := next(t, r, 1, l...)
	if e != api.OK || told(r) != strings.Repeat("g1 ", 16)+"a1[] [16 15 14 13 12 11 10 9 8 7 6 5 4 3 2 1]" {
		t.Fatal(told(r), e)
	}
	r, e = next(t, r, 3)
	if e != api.OK || told(r) != strings.Repeat("g1 ", 10)+strings.Repeat("x1 ", 6)+"a1[] [10 9 8 7 6 5 4 3 2 1]" {
		t.Fatal(told(r), e)
	}
}
