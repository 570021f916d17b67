package state

import (
	"testing"

	"landmark/api"
)

// worlds are states of each mode, of which the first one is well, with points that are known and such as are not.
func worlds(t *testing.T) ([]*pair, []api.Point) {
	t.Helper()
	o := newPair(t, anchorOf(2, 40, 2, 1, 1, 1))
	root := o.m.anchor.Point
	six := o.header(root, 6, deposit(5, 2), exit(4))
	seven := o.header(six, 7)
	x := o.header(root, 7, exit(1))
	far := o.header(seven, 16)
	o.take(voteOf(t, 1, root, six), voteOf(t, 2, root, six), voteOf(t, 3, root, six), voteOf(t, 1, six, seven))
	stale, fault := o.copied(), o.copied()
	stale.take(readingOf(16))
	eight := fault.line(root, 8, 9)
	fault.vote(six, seven, 5, 2)
	fault.vote(root, eight[1], 1, 2, 3)
	fault.vote(eight[1], eight[2], 1, 2, 3)
	fault.wantMode(api.ModeFault)
	both := fault.copied()
	both.take(readingOf(17))
	unknown := []api.Point{{Epoch: 6, Name: allOf(9)}, {Epoch: 7, Name: six.Name}, {Epoch: 40, Name: far.Name}, {Epoch: mostEpoch + 1, Name: six.Name}}
	return []*pair{o, stale, fault, both}, append([]api.Point{root, six, seven, x, far}, unknown...)
}

// P18.1, P18.4: each validator, source, target and signature with each other one, in each mode: the model's order of refusals is told, and what is refused changes nothing.
func TestVoteGrid(t *testing.T) {
	all, points := worlds(t)
	count := map[api.Errno]int{}
	for _, o := range all {
		for _, n := range []int{-1, 0, 1, 2, 4, 5, 6, 64, 65} {
			for _, source := range points {
				for _, target := range points {
					k := keyAt(min(max(n, 1), 9))
					right := voteBy(t, k, n, source, target)
					wrong := api.Input{Kind: api.InputVote, Vote: right.Vote}
					wrong.Vote.Sig = []byte{1}
					long := wrong
					long.Vote.Sig = make([]byte, 4097)
					for _, i := range []api.Input{wrong, long, right} {
						_, e := o.give(i)
						count[e]++
					}
				}
			}
		}
		o.hold()
	}
	for _, e := range []api.Errno{api.OK, api.ErrFault, api.ErrStale, api.ErrArg, api.ErrLink, api.ErrEpoch, api.ErrIdle, api.ErrExists, api.ErrSig} {
		if count[e] == 0 {
			t.Error("never told:", e)
		}
	}
}

// P18.1, P18.4: each parent, epoch and list of operations with each other one, in each mode.
func TestHeaderGrid(t *testing.T) {
	all, points := worlds(t)
	a, b := voteOf(t, 1, points[0], points[2]), voteOf(t, 1, points[0], points[3])
	ops := [][]api.HeaderOp{
		nil, {exit(0)}, {exit(1)}, {exit(4)}, {exit(5)}, {exit(9)}, {deposit(5, 1)}, {deposit(7, 2)}, {deposit(7, 3)}, {slashOf(1, a, b)}, {slashOf(1, a, a)}, {slashOf(2, a, b)}, {slashOf(9, a, b)},
		{exit(2), slashOf(1, b, a)}, {exit(2), slashOf(1, b, b)}, {slashOf(1, a, a), exit(9)}, {slashOf(1, a, b), exit(1)}, {deposit(7, 2), deposit(7, 2)}, {{}},
	}
	count := map[api.Errno]int{}
	for _, o := range all {
		for _, up := range points {
			for _, epoch := range []uint64{0, 1, 5, 6, 7, 8, 16, 17, 100, mostEpoch + 1} {
				for _, l := range ops {
					_, e := o.give(headerOf(up, epoch, l...))
					count[e]++
				}
			}
		}
		o.hold()
	}
	for _, e := range []api.Errno{api.OK, api.ErrFault, api.ErrArg, api.ErrExists, api.ErrParent, api.ErrEpoch, api.ErrOp} {
		if count[e] == 0 {
			t.Error("never told:", e)
		}
	}
}

// P18.1, P18.4: each checkpoint, decay and churn of an anchor with each other one, in each mode, each on a copy.
func TestAnchorGrid(t *testing.T) {
	all, points := worlds(t)
	count := map[api.Errno]int{}
	for _, o := range all {
		for _, p := range points {
			for _, decay := range []uint64{0, 17, 18, 35, 36, 39, 40, 43, 44, 1 << 62, 1<<62 + 1} {
				for _, churn := range []uint64{0, 2, 1 << 62} {
					a := anchorOf(churn, decay, 1, 2)
					a.Point = p
					c := o.copied()
					_, e := c.give(anchorInput(a))
					count[e]++
					if e == api.OK {
						c.hold()
					}
				}
			}
		}
		o.hold()
	}
	for _, e := range []api.Errno{api.OK, api.ErrFault, api.ErrState, api.ErrArg, api.ErrLink, api.ErrStale} {
		if count[e] == 0 {
			t.Error("never told:", e)
		}
	}
}
