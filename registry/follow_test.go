package registry

import (
	"math/big"
	"math/rand/v2"
	"testing"

	"landmark/api"
)

// stand is a register, and the epoch of the header that it stands behind.
type stand struct {
	epoch uint64
	r     api.Register
}

// holdBetween wants what comes to be active between two of a branch, and what no longer is, to be at most the churn times the epochs.
func holdBetween(t *testing.T, from, to stand) {
	t.Helper()
	bound := new(big.Int).Mul(new(big.Int).SetUint64(to.r.Churn), new(big.Int).SetUint64(to.epoch-from.epoch))
	newly, no := new(big.Int), new(big.Int)
	for n := range to.r.Members {
		was, is := Stake(from.r, n+1), Stake(to.r, n+1)
		if was == 0 {
			newly.Add(newly, new(big.Int).SetUint64(is))
		}
		if is == 0 {
			no.Add(no, new(big.Int).SetUint64(was))
		}
	}
	if newly.Cmp(bound) > 0 || no.Cmp(bound) > 0 {
		t.Fatalf("from epoch %d to %d: %v are newly active, %v no longer; at most %v", from.epoch, to.epoch, newly, no, bound)
	}
	if len(from.r.Members) > len(to.r.Members) || from.r.Churn != to.r.Churn {
		t.Fatal("members, or the churn, are lost")
	}
	// Who is a member is so for good, by the same number, and no step is taken back.
	for n, m := range from.r.Members {
		now := to.r.Members[n]
		if now.Key != m.Key || now.Stake != m.Stake || now.Status < m.Status || m.Marked && !now.Marked {
			t.Fatalf("the member %d was %v, and is %v", n+1, m, now)
		}
	}
}

// holdBranch wants it of all pairs of a branch, and somebody to be active in each.
func holdBranch(t *testing.T, branch []stand) {
	t.Helper()
	for i, s := range branch {
		if Total(s.r) == 0 || !May(s.r) {
			t.Fatalf("nobody is active, or the register may not be: %s", told(s.r))
		}
		for _, earlier := range branch[:i] {
			holdBetween(t, earlier, s)
		}
	}
}

// P11.4: long branches by chance, of small and of great epochs and churns, of headers with few operations and with many.
func TestBranches(t *testing.T) {
	source := rand.New(rand.NewPCG(11, 5))
	most := map[api.MemberStatus]int{}
	for run := range 60 {
		a := anchorOf(1 + source.IntN(12))
		a.Churn = 1 + source.Uint64N([]uint64{3, 12, 40}[run%3])
		r, e := First(a)
		if e != api.OK {
			t.Fatal(e)
		}
		branch := []stand{{5, r}}
		for range 120 {
			last := branch[len(branch)-1]
			epoch := last.epoch + 1 + source.Uint64N(uint64(1+run%4))
			if source.IntN(100) == 0 {
				epoch += 1 << 50
			}
			// Each operation that is refused is left out, and the others are tried.
			var taken []api.HeaderOp
			for _, op := range someOps(source, last.r, []int{1, 3, api.MaxOps}[run/20]) {
				if _, e := give(t, last.r, api.Header{Epoch: epoch, Ops: append(taken[:len(taken):len(taken)], op)}, last.epoch); e == api.OK {
					taken = append(taken, op)
				}
			}
			r, e := give(t, last.r, api.Header{Epoch: epoch, Ops: taken}, last.epoch)
			if e != api.OK {
				t.Fatal(e)
			}
			branch = append(branch, stand{epoch, r})
		}
		holdBranch(t, branch)
		for _, m := range branch[len(branch)-1].r.Members {
			most[m.Status]++
		}
	}
	for s := api.MemberComing; s <= api.MemberGone; s++ {
		if most[s] < 5 {
			t.Errorf("how many are of status %d: %d", s, most[s])
		}
	}
}

// P11.4: all want to go, or are seen to break the rules: one stays for good.
func TestSomebodyStays(t *testing.T) {
	for _, byExit := range []int{0, 1, 2} {
		r := many(63, api.MemberActive)
		branch := []stand{{5, r}}
		for round := range 6 {
			var l []api.HeaderOp
			for n := 1 + round*15%64; n <= 64 && len(l) < 16; n++ {
				op := exitOf(n)
				if byExit == 0 || byExit == 2 && n%2 == 0 {
					op = slashOf(n)
				}
				if _, e := next(t, r, 1, append(l[:len(l):len(l)], op)...); e == api.OK {
					l = append(l, op)
				}
			}
			at := branch[len(branch)-1]
			r, _ = give(t, at.r, api.Header{Epoch: at.epoch + 1, Ops: l}, at.epoch)
			branch = append(branch, stand{at.epoch + 1, r})
		}
		for range 10 {
			at := branch[len(branch)-1]
			r, _ = give(t, at.r, api.Header{Epoch: at.epoch + 1}, at.epoch)
			branch = append(branch, stand{at.epoch + 1, r})
		}
		holdBranch(t, branch)
		if got := len(modelVotes(r)); got != 1 {
			t.Errorf("%d are active at last", got)
		}
		if _, e := next(t, r, 1, exitOf(64)); e != api.ErrOp {
			t.Error("the last one goes:", e)
		}
	}
}

// P11.4: a whole register is another one, at the pace that the churn bounds, and no faster.
func TestAllChange(t *testing.T) {
	r := register(5, "a3 a2 a4 a1")
	branch := []stand{{5, r}}
	push := func(l ...api.HeaderOp) {
		at := branch[len(branch)-1]
		r, e := give(t, at.r, api.Header{Epoch: at.epoch + 1, Ops: l}, at.epoch)
		if e != api.OK {
			t.Fatal(e)
		}
		branch = append(branch, stand{at.epoch + 1, r})
	}
	push(depositOf(5, 5), depositOf(6, 4), exitOf(1), exitOf(2), exitOf(3))
	push(exitOf(4))
	for range 4 {
		push()
	}
	holdBranch(t, branch)
	for i, want := range []string{
		"a3 a2 a4 a1[] []",
		"g3 g2 g4 a1 c5 c4[5 6] [1 2 3]",
		"x3 x2 g4 g1 a5 c4[6] [3 4]",
		"x3 x2 x4 x1 a5 a4[] []",
	} {
		if got := told(branch[i].r); got != want {
			t.Errorf("%d: %s; want %s", i, got, want)
		}
	}
}
