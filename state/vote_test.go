package state

import (
	"math"
	"testing"

	"landmark/api"
)

// P18.1: a vote that is accepted answers a point of noughts, and is in the pool with its member's key and stake.
func TestVote(t *testing.T) {
	o := newPair(t, anchorOf(10, 200, 4, 3, 2, 1))
	l := o.line(o.m.anchor.Point, 6, 8, 9)
	x := o.header(l[1], 7)
	for n := 1; n <= 4; n++ {
		for _, link := range [][2]api.Point{{l[0], l[1]}, {l[0], l[2]}, {l[1], l[2]}, {l[2], l[3]}, {l[0], l[3]}, {l[0], x}, {l[1], x}} {
			p, e := o.give(voteOf(t, n, link[0], link[1]))
			if p != (api.Point{}) || e != api.OK {
				t.Fatal(p, e)
			}
		}
		one := listOf(o.s.Pool().All())[7*(n-1)]
		if one.Key != rootAt(n) || one.Stake != uint64(5-n) {
			t.Errorf("the vote of %d weighs %d", n, one.Stake)
		}
		o.hold()
	}
}

// P18.1: a vote that may not be.
func TestVoteMayNot(t *testing.T) {
	o := newPair(t, four())
	l := o.line(o.m.anchor.Point, 6, 7)
	right := voteOf(t, 1, l[0], l[1])
	wrong := func(change func(*api.Vote)) api.Input {
		i := cloneInput(right)
		change(&i.Vote)
		return i
	}
	for _, n := range []int{0, -1, 65, 256, 257, 1<<32 + 1, math.MaxInt, math.MinInt} {
		o.refuse(api.ErrArg, wrong(func(v *api.Vote) { v.Validator = n }))
	}
	for _, epoch := range []uint64{mostEpoch + 1, 1 << 63, 1<<63 + 5, math.MaxUint64} {
		o.refuse(api.ErrArg, wrong(func(v *api.Vote) { v.Source.Epoch = epoch }), wrong(func(v *api.Vote) { v.Target.Epoch = epoch }))
	}
	for _, size := range []int{4097, 65536, 1 << 20} {
		o.refuse(api.ErrArg, wrong(func(v *api.Vote) { v.Sig = make([]byte, size) }))
	}
	o.take(right)
	o.hold()
}

// P18.1: a link whose points are not both known, or whose source is its target, or no ancestor of it.
func TestVoteLink(t *testing.T) {
	o := newPair(t, four())
	l := o.line(o.m.anchor.Point, 6, 7, 9)
	x := o.line(l[1], 8, 10)
	near := func(p api.Point) []api.Point {
		return []api.Point{
			changed(p, func(p *api.Point) { p.Epoch++ }), changed(p, func(p *api.Point) { p.Epoch-- }), changed(p, func(p *api.Point) { p.Name[0] ^= 1 }),
			changed(p, func(p *api.Point) { p.Name[31] ^= 128 }), {Epoch: p.Epoch}, {},
		}
	}
	for _, p := range near(l[1]) {
		o.refuse(api.ErrLink, voteOf(t, 1, p, l[2]))
	}
	for _, p := range near(l[2]) {
		o.refuse(api.ErrLink, voteOf(t, 1, l[1], p))
	}
	for _, p := range near(l[0]) {
		o.refuse(api.ErrLink, voteOf(t, 1, p, l[2]), voteOf(t, 1, p, p), voteOf(t, 1, l[2], p))
	}
	for _, p := range append(l, x...) {
		o.refuse(api.ErrLink, voteOf(t, 1, p, p))
	}
	o.refuse(api.ErrLink,
		voteOf(t, 1, l[1], l[0]), voteOf(t, 1, l[2], l[1]), voteOf(t, 1, l[3], l[0]), voteOf(t, 1, x[2], l[1]),
		voteOf(t, 1, l[2], x[1]), voteOf(t, 1, x[1], l[3]), voteOf(t, 1, l[2], x[2]), voteOf(t, 1, x[2], l[3]),
	)
	o.vote(l[1], x[2], 1)
	o.vote(l[0], x[1], 1)
	o.vote(l[2], l[3], 1)
	o.hold()
}

// P18.1: a target's epoch at where the anchor's time ends, and above.
func TestVoteEpoch(t *testing.T) {
	for _, given := range []struct{ churn, decay uint64 }{{1, 20}, {1, 21}, {10, 200}, {3, 65}, {1, 2}} {
		o := newPair(t, anchorOf(given.churn, given.decay, 1, 1, 1, 1))
		root, ends := o.m.anchor.Point, o.s.Ends()
		at, above := o.header(root, ends), o.header(root, ends+1)
		far := o.header(at, ends+100)
		o.refuse(api.ErrEpoch, voteOf(t, 1, root, above), voteOf(t, 1, root, far), voteOf(t, 1, at, far))
		o.vote(root, at, 1, 2, 3)
		o.wantJustified(root, at)
		o.refuse(api.ErrEpoch, voteOf(t, 4, at, far))
		// The clock is nothing to that, as long as it stands at most at the end.
		o.take(readingOf(ends))
		o.refuse(api.ErrEpoch, voteOf(t, 1, root, above))
		o.vote(root, at, 4)
		o.hold()
	}
}

// P18.1: of a window of 0 no target is early enough.
func TestVoteNoWindow(t *testing.T) {
	o := newPair(t, anchorOf(1, 1, 1))
	l := o.line(o.m.anchor.Point, 6, 7)
	o.refuse(api.ErrEpoch, voteOf(t, 1, l[0], l[1]), voteOf(t, 1, l[1], l[2]))
	o.refuse(api.ErrLink, voteOf(t, 1, l[0], l[0]))
	o.hold()
}

// P18.1: the validator has to be active in the target's register, whatever it is in the source's: not there, coming, going, gone.
func TestVoteIdle(t *testing.T) {
	o := newPair(t, anchorOf(1, 100, 1, 1, 1, 1))
	root := o.m.anchor.Point
	six := o.header(root, 6, deposit(5, 1), deposit(6, 1), exit(2), exit(3))
	l := o.line(six, 7, 8, 9)
	x := o.header(root, 7)
	for n, given := range []struct {
		n     int
		first api.Point
		right []api.Point
		wrong []api.Point
	}{
		{1, root, []api.Point{six, l[1], l[2], l[3], x}, nil},
		// It goes at 6, and is gone at 7; the next one is gone at 8.
		{2, root, []api.Point{six, x}, l[1:]},
		{3, root, []api.Point{six, l[1], x}, l[2:]},
		// It comes at 6, and is active at 7; the next one at 8. On another branch there is none.
		{5, root, l[1:], []api.Point{six, x}},
		{6, root, l[2:], []api.Point{six, l[1], x}},
		{7, root, nil, []api.Point{six, l[1], l[3], x}},
		{64, root, nil, []api.Point{six, l[1], l[3], x}},
	} {
		for _, target := range given.wrong {
			o.refuse(api.ErrIdle, voteOf(t, given.n, given.first, target))
		}
		for _, target := range given.right {
			o.take(voteOf(t, given.n, given.first, target))
		}
		if n == 1 {
			// It is active in the source's register.
			o.refuse(api.ErrIdle, voteOf(t, 2, six, l[1]), voteOf(t, 2, six, l[3]))
		}
	}
	// They are not active in the source's register.
	o.take(voteOf(t, 5, six, l[1]), voteOf(t, 6, l[1], l[2]))
	o.hold()
}

// P18.1: a key has one vote of a link: a second one is refused, whatever it is signed with; other links, and other keys, are others.
func TestVoteExists(t *testing.T) {
	o := newPair(t, four())
	l := o.line(o.m.anchor.Point, 6, 7)
	x := o.header(l[0], 7)
	right := voteOf(t, 1, l[0], l[1])
	o.take(right)
	unsigned, wrong := cloneInput(right), cloneInput(right)
	unsigned.Vote.Sig = nil
	wrong.Vote.Sig[3] ^= 1
	o.refuse(api.ErrExists, right, unsigned, wrong, voteBy(t, keyAt(2), 1, l[0], l[1]))
	o.vote(l[0], l[1], 2, 3, 4)
	o.refuse(api.ErrExists, right, unsigned, voteOf(t, 2, l[0], l[1]), voteOf(t, 4, l[0], l[1]))
	o.vote(l[0], l[2], 1)
	o.vote(l[1], l[2], 1)
	o.vote(l[0], x, 1)
	o.refuse(api.ErrExists, voteOf(t, 1, l[0], x), voteOf(t, 1, l[1], l[2]))
	o.hold()
}

// P18.1: a signature that is none: of another key, number, link, validator, of another size, with a bit turned.
func TestVoteSig(t *testing.T) {
	o := newPair(t, four())
	l := o.line(o.m.anchor.Point, 6, 7)
	x := o.header(l[0], 7)
	right := voteOf(t, 1, l[0], l[2])
	with := func(sig []byte) api.Input {
		i := cloneInput(right)
		i.Vote.Sig = sig
		return i
	}
	for _, other := range []api.Input{
		voteOf(t, 2, l[0], l[2]), voteBy(t, keyAt(2), 1, l[0], l[2]), voteOf(t, 1, l[1], l[2]), voteOf(t, 1, l[0], x), voteOf(t, 1, l[0], l[1]), voteBy(t, keyAt(1), 2, l[0], l[2]),
	} {
		o.refuse(api.ErrSig, with(other.Vote.Sig))
	}
	otherNumber, e := keyAt(1).Sign(6, hashOf(right.Vote))
	if e != api.OK {
		t.Fatal(e)
	}
	o.refuse(api.ErrSig, with(otherNumber), with(nil), with([]byte{}), with(right.Vote.Sig[:1215]), with(append(cloneInput(right).Vote.Sig, 0)), with(make([]byte, 1216)), with(make([]byte, 4096)))
	for _, at := range []int{0, 500, 1087, 1088, 1215} {
		i := cloneInput(right)
		i.Vote.Sig[at] ^= 16
		o.refuse(api.ErrSig, i)
	}
	// The key is the member's in the target's register: the number 5 is another one on each branch.
	six, seven := o.header(l[0], 6, deposit(5, 1)), o.header(l[0], 6, deposit(6, 1))
	a, b := o.header(six, 7), o.header(seven, 7)
	o.refuse(api.ErrSig, voteBy(t, keyAt(6), 5, l[0], a), voteBy(t, keyAt(5), 5, l[0], b))
	o.take(right, voteBy(t, keyAt(5), 5, l[0], a), voteBy(t, keyAt(6), 5, l[0], b))
	o.hold()
}

// P18.1: one number's votes of two branches may be of two keys: each has votes of its own.
func TestVoteKeys(t *testing.T) {
	o := newPair(t, anchorOf(9, 900, 9))
	root := o.m.anchor.Point
	a, b := o.line(o.header(root, 6, deposit(2, 5)), 7), o.line(o.header(root, 6, deposit(3, 9)), 7)
	o.vote(root, a[1], 2)
	o.vote(root, b[1], 2)
	o.vote(root, a[1], 1)
	l := listOf(o.s.Pool().All())
	if len(l) != 3 || l[0].Key != rootAt(2) || l[0].Stake != 5 || l[1].Key != rootAt(3) || l[1].Stake != 9 || l[2].Key != rootAt(1) {
		t.Error("the votes are of other keys, or weigh another thing")
	}
	if len(o.s.Evidence()) != 0 {
		t.Error("one key did not vote twice")
	}
	o.hold()
}

// P18.1: of a vote with more than one fault the first one is told, in the chapter's order: each is wrong in what is told, and in all that comes behind it.
func TestVoteOrder(t *testing.T) {
	o := newPair(t, four())
	root := o.m.anchor.Point
	l := o.line(root, 6, 7)
	far := o.header(l[2], 16)
	o.take(voteOf(t, 1, l[0], l[1]))
	unknown := api.Point{Epoch: 40, Name: allOf(9)}
	vote := func(n int, source, target api.Point) api.Input {
		return api.Input{Kind: api.InputVote, Vote: api.Vote{Validator: n, Source: source, Target: target, Sig: []byte{1}}}
	}
	wrong := []struct {
		want api.Errno
		l    []api.Input
	}{
		{api.ErrArg, []api.Input{vote(0, l[2], l[1]), vote(65, unknown, far), vote(65, l[0], far), vote(65, l[0], l[1])}},
		{api.ErrLink, []api.Input{vote(5, unknown, far), vote(5, l[0], unknown), vote(5, far, far), vote(5, far, l[0]), vote(1, l[1], l[0])}},
		{api.ErrEpoch, []api.Input{vote(5, l[0], far), vote(64, l[2], far), vote(1, l[0], far)}},
		{api.ErrIdle, []api.Input{vote(5, l[0], l[1]), vote(64, l[0], l[1])}},
		{api.ErrExists, []api.Input{vote(1, l[0], l[1])}},
		{api.ErrSig, []api.Input{vote(2, l[0], l[1]), vote(1, l[1], l[2])}},
	}
	for _, each := range wrong {
		o.refuse(each.want, each.l...)
	}
	o.take(readingOf(16))
	for _, each := range wrong {
		o.refuse(api.ErrStale, each.l...)
	}
	o.refuse(api.ErrStale, voteOf(t, 2, l[0], l[1]))
	fault, _, _ := forked(t)
	for _, each := range wrong {
		fault.refuse(api.ErrFault, each.l...)
	}
	fault.take(readingOf(1000))
	for _, each := range wrong {
		fault.refuse(api.ErrFault, each.l...)
	}
}

// P18.1: MaxVotes votes, and none more: that is told behind all else that is wrong.
func TestVoteFull(t *testing.T) {
	t.Parallel()
	o := newPair(t, anchorOf(1, 4000, 1, 1, 1))
	l := o.line(o.m.anchor.Point, 6, 7)
	far := o.header(l[2], 3000)
	o.vote(l[0], l[1], 1)
	s := o.s
	// The others' votes are put there by themselves: who signed them is nothing to the bound.
	for n := s.pool.Len(); n < 65535; n++ {
		v := api.Vote{Validator: 1, Target: api.Point{Epoch: uint64(n)}}
		if _, e := s.pool.Add(v, allOf(9), 1); e != api.OK {
			t.Fatal(n, e)
		}
		s.order = append(s.order, api.InputVote)
	}
	if e := s.Check(voteOf(t, 2, l[0], l[1])); e != api.OK {
		t.Fatal("the last vote:", e)
	}
	if _, e := s.Apply(voteOf(t, 2, l[0], l[1])); e != api.OK || len(s.Justified()) != 2 {
		t.Fatal("the last vote:", e)
	}
	unsigned := voteOf(t, 3, l[0], l[1])
	unsigned.Vote.Sig = nil
	for _, given := range []struct {
		i    api.Input
		want api.Errno
	}{
		{voteOf(t, 3, l[0], l[1]), api.ErrFull}, {voteOf(t, 1, l[1], l[2]), api.ErrFull}, {unsigned, api.ErrSig}, {voteOf(t, 2, l[0], l[1]), api.ErrExists},
		{voteOf(t, 4, l[0], l[1]), api.ErrIdle}, {voteOf(t, 1, l[0], far), api.ErrEpoch}, {voteOf(t, 1, l[0], l[0]), api.ErrLink}, {voteBy(t, keyAt(1), 0, l[0], l[1]), api.ErrArg},
	} {
		for range 2 {
			p, e := s.Apply(given.i)
			if p != (api.Point{}) || e != given.want || s.Check(given.i) != given.want {
				t.Errorf("of a full pool: %v; want %v", e, given.want)
			}
		}
	}
	if s.Pool().Len() != 65536 || s.Mode() != api.ModeWell {
		t.Error(s.Pool().Len())
	}
	// Headers, readings and anchors are taken still.
	if p, e := s.Apply(headerOf(l[2], 8)); e != api.OK || p.Epoch != 8 {
		t.Error("a header:", e)
	}
	if _, e := s.Apply(readingOf(2006)); e != api.OK || s.Mode() != api.ModeStale {
		t.Error("a reading:", e)
	}
	a := o.newAnchor(l[1], 2005)
	if _, e := s.Apply(anchorInput(a)); e != api.OK || s.Pool().Len() != 0 || s.Mode() != api.ModeWell {
		t.Error("an anchor:", e)
	}
}
