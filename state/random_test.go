package state

import (
	"math/rand/v2"
	"testing"

	"landmark/api"
)

// chance makes inputs by chance for a pair: such as may be accepted, mostly, and such as differ from these in one thing.
type chance struct {
	*rand.Rand
	o *pair
}

// oneOf is one of a list.
func oneOf[T any](c chance, l []T) T { return l[c.IntN(len(l))] }

// point is a known checkpoint, the last ones more often; or, seldom, one that is none.
func (c chance) point() api.Point {
	m := c.o.m
	if c.IntN(40) == 0 {
		return api.Point{Epoch: 6, Name: allOf(9)}
	}
	if len(m.headers) == 0 || c.IntN(12) == 0 {
		return m.anchor.Point
	}
	near := min(len(m.headers), 6)
	if c.IntN(4) == 0 {
		near = len(m.headers)
	}
	return m.pointAt(len(m.headers) - 1 - c.IntN(near))
}

func (c chance) input() api.Input {
	if c.o.m.stale() && c.IntN(6) == 0 {
		return c.anchor()
	}
	switch n := c.IntN(100); {
	case n < 26:
		return c.header()
	case n < 86:
		return c.vote()
	case n < 94:
		return readingOf(c.o.m.at + c.Uint64N(4) - 1)
	case n < 98:
		return c.anchor()
	}
	return api.Input{Kind: api.InputKind(c.IntN(9) - 3), Header: c.header().Header, Vote: c.vote().Vote}
}

func (c chance) header() api.Input {
	if l := c.o.m.headers; len(l) > 0 && c.IntN(15) == 0 {
		return api.Input{Kind: api.InputHeader, Header: oneOf(c, l)}
	}
	up := c.point()
	i := headerOf(up, up.Epoch+1)
	switch c.IntN(12) {
	case 0, 1:
		i.Header.Epoch++
	case 2:
		i.Header.Epoch--
	case 3:
		i.Header.Epoch = 0
	}
	for c.IntN(3) == 0 {
		i.Header.Ops = append(i.Header.Ops, c.op())
	}
	return i
}

func (c chance) op() api.HeaderOp {
	switch c.IntN(8) {
	case 0, 1, 2:
		return deposit(1+c.IntN(9), 1+c.Uint64N(4))
	case 3, 4:
		return exit(1 + c.IntN(7))
	case 5, 6:
		l := c.o.m.evidence()
		if len(l) > 0 {
			e := oneOf(c, l)
			r := c.o.m.registers[c.point().Name]
			for n, one := range r.Members {
				if one.Key == e.Key {
					return slashOf(n+1, api.Input{Vote: e.A}, api.Input{Vote: e.B})
				}
			}
		}
	}
	return slashOf(1+c.IntN(6), c.vote(), c.vote())
}

// vote is one that its validator signs, mostly: of a header, from one of its ancestors.
func (c chance) vote() api.Input {
	target, source := c.point(), c.point()
	for len(c.o.m.headers) > 0 && target == c.o.m.anchor.Point {
		target = c.point()
	}
	if c.o.m.knows(target) && c.IntN(10) > 0 {
		path := c.o.m.path(target.Name)
		source = path[min(c.IntN(4)%3+1, len(path)-1)]
		if c.IntN(3) == 0 {
			source = oneOf(c, path)
		}
	}
	members := c.o.m.registers[target.Name].Members
	n, k := 1+c.IntN(len(members)+1), keyAt(1+c.IntN(9))
	if n <= len(members) && c.IntN(15) > 0 {
		k = keyOfRoot(c.o.t, members[n-1].Key)
	}
	i := voteBy(c.o.t, k, n, source, target)
	switch c.IntN(40) {
	case 0:
		i.Vote.Validator = 0
	case 1:
		i.Vote.Sig[c.IntN(1216)] ^= 1
	case 2:
		i.Vote.Sig = nil
	case 3:
		i.Vote.Target.Epoch++
	}
	return i
}

func (c chance) anchor() api.Input {
	p := c.point()
	if !c.o.m.knows(p) || c.IntN(3) == 0 {
		p = c.o.m.told
	}
	window := c.Uint64N(12)
	if at := c.o.m.at; at > p.Epoch && c.IntN(3) > 0 {
		window += at - p.Epoch
	}
	a := c.o.newAnchor(p, window)
	switch c.IntN(9) {
	case 0:
		a.Churn = 0
	case 1:
		a.Point.Epoch++
	}
	return anchorInput(a)
}

// told counts what inputs of a kind came to.
type told map[api.InputKind]map[api.Errno]int

// run gives inputs by chance, and holds all that can be held now and then.
func (c chance) run(steps int, counts told) {
	c.o.t.Helper()
	for n := range steps {
		i := c.input()
		kept := cloneInput(i)
		_, e := c.o.give(i)
		if counts[i.Kind] == nil {
			counts[i.Kind] = map[api.Errno]int{}
		}
		counts[i.Kind][e]++
		if e == api.OK && !sameInput(kept, cloneInput(i)) {
			c.o.t.Fatal("what was handed in was changed")
		}
		if n%9 == 8 {
			c.o.holdLooks()
		}
	}
	c.o.hold()
}

// P18.1 to P18.4: by chance: each answer is the model's, at each step; and each one comes.
func TestByChance(t *testing.T) {
	counts := told{}
	for seed := range uint64(90) {
		stakes := [][]uint64{{1, 1, 1, 1}, {5, 1, 1}, {2, 2, 1}, {1}, {3, 3, 3, 2, 1}}[seed%5]
		o := newPair(t, anchorOf(1+seed%4, (8+seed%30)*2, stakes...))
		c := chance{rand.New(rand.NewPCG(18, seed)), o}
		c.run(120, counts)
		if t.Failed() {
			t.Fatal("seed", seed)
		}
	}
	for kind, codes := range map[api.InputKind][]api.Errno{
		api.InputHeader: {api.OK, api.ErrFault, api.ErrArg, api.ErrExists, api.ErrParent, api.ErrEpoch, api.ErrOp},
		api.InputVote:   {api.OK, api.ErrFault, api.ErrStale, api.ErrArg, api.ErrLink, api.ErrEpoch, api.ErrIdle, api.ErrExists, api.ErrSig},
		api.InputClock:  {api.OK, api.ErrIdle},
		api.InputAnchor: {api.OK, api.ErrFault, api.ErrState, api.ErrArg, api.ErrLink, api.ErrStale},
	} {
		for _, code := range codes {
			if counts[kind][code] < 5 {
				t.Errorf("kind %d came to %v %d times", kind, code, counts[kind][code])
			}
		}
	}
}

// P18.4: a final one that was told is an ancestor of each later one that is told, or it, till another anchor comes, and then of that; the clock never goes back.
func TestNeverTakenBack(t *testing.T) {
	changes, anchors := 0, 0
	for seed := range uint64(80) {
		o := newPair(t, anchorOf(2, 16, [][]uint64{{1}, {5, 1, 1}}[seed%2]...))
		c := chance{rand.New(rand.NewPCG(184, seed)), o}
		last, _ := o.s.FinalPoint()
		for range 120 {
			at, chain := o.s.Clock(), o.s.Chain()
			i := c.input()
			_, e := o.give(i)
			if o.s.Clock() < at {
				t.Fatal("the clock went back")
			}
			if i.Kind == api.InputAnchor && e == api.OK {
				anchors++
				if !chain.Under(i.Anchor.Point.Name, last.Name) {
					t.Fatal("an anchor that does not descend from what was told")
				}
				last = i.Anchor.Point
			}
			p, e := o.s.FinalPoint()
			if e != api.OK {
				continue
			}
			if !o.s.Chain().Under(p.Name, last.Name) {
				t.Fatalf("seed %d: told %v, and %v ahead of it", seed, p, last)
			}
			if p != last {
				changes++
			}
			last = p
		}
	}
	if changes < 40 || anchors < 10 {
		t.Error("final ones:", changes, "anchors:", anchors)
	}
}

// P18.3: copies of copies at any step, each of which goes on by itself.
func TestCopiesByChance(t *testing.T) {
	for seed := range uint64(6) {
		source := rand.New(rand.NewPCG(183, seed))
		all := []*pair{newPair(t, anchorOf(2, 40, 3, 2, 1))}
		for range 25 {
			o := oneOf(chance{source, nil}, all)
			c := o.copied()
			all = append(all, c)
			for range 6 {
				c.give(chance{source, c}.input())
				o.give(chance{source, o}.input())
			}
		}
		for _, o := range all {
			o.hold()
		}
		for _, a := range all {
			for _, b := range all {
				want := sameModel(a.m, b.m)
				if is := isSame(t, a.s, b.s); is != want {
					t.Fatalf("Same %v; want %v", is, want)
				}
			}
		}
	}
}

// sameModel is whether two models are the same, but for when their readings came.
func sameModel(a, b *model) bool {
	left := func(m *model) []api.Input {
		var l []api.Input
		for _, i := range m.inputs {
			if i.Kind != api.InputClock {
				l = append(l, i)
			}
		}
		return l
	}
	la, lb := left(a), left(b)
	if a.at != b.at || a.told != b.told || a.fault != b.fault || len(la) != len(lb) || !sameInput(anchorInput(a.anchor), anchorInput(b.anchor)) {
		return false
	}
	for n := range la {
		if !sameInput(la[n], lb[n]) {
			return false
		}
	}
	return true
}
