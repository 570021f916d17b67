package state

import (
	"slices"
	"testing"

	"landmark/api"
	"landmark/chain"
	"landmark/ffg"
	"landmark/pool"
	"landmark/slash"
)

// mixed is a state of all kinds of things: registers that differ by branches, votes against the rules, readings.
func mixed(t *testing.T) (*pair, []api.Point) {
	t.Helper()
	o := newPair(t, anchorOf(5, 300, 5, 4, 3, 2))
	root := o.m.anchor.Point
	a := o.header(root, 6, deposit(5, 4), exit(4))
	b := o.header(a, 7, deposit(6, 5), deposit(7, 5))
	o.take(readingOf(7))
	x := o.header(root, 6, exit(3))
	o.vote(root, a, 1, 2, 3)
	o.vote(root, x, 2, 3)
	c := o.header(b, 8, slashOf(2, api.Input{Vote: o.m.votes[1].Vote}, api.Input{Vote: o.m.votes[3].Vote}))
	o.vote(a, b, 1, 2, 3, 5)
	o.take(readingOf(9))
	o.vote(root, c, 6, 1)
	return o, []api.Point{root, a, b, c, x}
}

// P18.2: each look, of a state of all kinds of things, and behind each one they are the same.
func TestLooks(t *testing.T) {
	o, l := mixed(t)
	o.hold()
	o.wantFinal(l[1])
	o.wantJustified(l[0], l[1], l[2])
	r, e := o.s.Register(l[3].Name)
	want := api.Register{
		Members: []api.Member{
			{Key: rootAt(1), Stake: 5, Status: 2}, {Key: rootAt(2), Stake: 4, Status: 3, Marked: true}, {Key: rootAt(3), Stake: 3, Status: 2},
			{Key: rootAt(4), Stake: 2, Status: 4}, {Key: rootAt(5), Stake: 4, Status: 2}, {Key: rootAt(6), Stake: 5, Status: 2}, {Key: rootAt(7), Stake: 5, Status: 1},
		},
		Coming: []int{7}, Going: []int{2}, Churn: 5,
	}
	if e != api.OK || !sameRegister(r, want) {
		t.Error(r, e)
	}
	for range 3 {
		o.hold()
	}
}

// P18.2: Register of the anchor's name, of noughts' where that is none, of no name.
func TestRegister(t *testing.T) {
	a := four()
	a.Point.Name = api.Hash{}
	o := newPair(t, a)
	if r, e := o.s.Register(api.Hash{}); e != api.OK || len(r.Members) != 4 || r.Churn != 1 {
		t.Error(r, e)
	}
	o.hold()
	other := newPair(t, four())
	for _, name := range []api.Hash{{}, allOf(255), {0: 7}, {31: 1}, {0: 7, 31: 2}} {
		if r, e := other.s.Register(name); e != api.ErrNone || !sameRegister(r, api.Register{}) {
			t.Error(r, e)
		}
	}
}

// P18.2: evidence of all votes: of each key the first two, in the order of the first ones' places; each of it checks.
func TestEvidence(t *testing.T) {
	o := newPair(t, four())
	root := o.m.anchor.Point
	l := o.line(root, 6, 7, 9)
	x := o.header(root, 7)
	o.vote(root, x, 3)
	o.vote(l[1], l[2], 1)
	o.vote(root, l[2], 3)
	o.vote(root, l[3], 1)
	o.vote(root, x, 1, 4)
	o.vote(l[1], l[2], 3)
	o.vote(root, l[2], 2)
	found := o.s.Evidence()
	if keys := slash.Named(found); !slices.Equal(keys, []api.Hash{rootAt(3), rootAt(1)}) {
		t.Fatal(len(keys))
	}
	for n, e := range found {
		if code := slash.Check(e); code != api.OK {
			t.Error(n, code)
		}
	}
	if found[0].A.Target != x || found[0].B.Target != l[2] || found[1].A.Target != l[2] || found[1].B.Target != l[3] {
		t.Error("of a key others than the first two")
	}
	o.hold()
}

// P18.2: Chain, Pool and Gadget are copies: what is done with them is not done with the state, nor the other way round.
func TestParts(t *testing.T) {
	o, l := mixed(t)
	c, p, g := o.s.Chain(), o.s.Pool(), o.s.Gadget()
	headers, votes, links := c.Len(), p.Len(), g.Links()
	if _, e := c.Add(api.Header{Parent: l[3].Name, Epoch: 9}); e != api.OK {
		t.Fatal(e)
	}
	if _, e := p.Add(voteOf(t, 3, l[2], l[3]).Vote, rootAt(3), 3); e != api.OK {
		t.Fatal(e)
	}
	if e := g.Strong(api.Link{Source: l[2], Target: l[3]}); e != api.OK {
		t.Fatal(e)
	}
	o.hold()
	nine := o.header(l[3], 9)
	o.vote(l[2], l[3], 3, 1, 5, 6)
	if !c.Knows(nine) || c.Len() != headers+1 || p.Len() != votes+1 || len(g.Links()) != len(links)+1 {
		t.Error("what was told has changed")
	}
	o.hold()
	for range 2 {
		if o.s.Chain() == o.s.Chain() || o.s.Pool() == o.s.Pool() || o.s.Gadget() == o.s.Gadget() {
			t.Error("one answer is another one")
		}
	}
}

// P18.2: what is told is told of a state as it is; later ones are others.
func TestToldThen(t *testing.T) {
	o, l := mixed(t)
	justified, inputs, evidence := o.s.Justified(), o.s.Inputs(), o.s.Evidence()
	o.vote(root(o), l[4], 1)
	o.vote(root(o), l[3], 3)
	o.vote(root(o), l[3], 5)
	o.header(l[3], 9)
	if len(justified) != 3 || len(o.s.Justified()) != 5 || len(o.s.Inputs()) != len(inputs)+4 || len(o.s.Evidence()) == len(evidence) {
		t.Error(len(justified), len(o.s.Justified()), len(inputs), len(o.s.Inputs()), len(evidence), len(o.s.Evidence()))
	}
	o.hold()
}

func root(o *pair) api.Point { return o.m.anchor.Point }

// noStates are a nil state, and zero ones.
func noStates() []*State { return []*State{nil, {}, new(State)} }

// Every call of a nil state, and of a zero one: ErrNil, and nothing; nothing is changed.
func TestNone(t *testing.T) {
	for _, s := range noStates() {
		for range 2 {
			holdNone(t, s)
		}
	}
}

func holdNone(t *testing.T, s *State) {
	t.Helper()
	header := headerOf(four().Point, 6)
	for _, i := range []api.Input{{}, {Kind: 5}, {Kind: -1}, header, {Kind: api.InputHeader}, {Kind: api.InputVote}, readingOf(9), readingOf(0), anchorInput(four()), anchorInput(api.Anchor{})} {
		if p, e := s.Apply(i); p != (api.Point{}) || e != api.ErrNil {
			t.Error("Apply:", p, e)
		}
		if e := s.Check(i); e != api.ErrNil {
			t.Error("Check:", e)
		}
	}
	if p, e := s.FinalPoint(); p != (api.Point{}) || e != api.ErrNil {
		t.Error("FinalPoint:", p, e)
	}
	for _, name := range []api.Hash{{}, four().Point.Name} {
		if r, e := s.Register(name); !sameRegister(r, api.Register{}) || e != api.ErrNil {
			t.Error("Register:", r, e)
		}
	}
	if len(s.Justified()) != 0 || len(s.Evidence()) != 0 || len(s.Inputs()) != 0 || s.Mode() != api.ModeWell || s.Clock() != 0 || s.Ends() != 0 {
		t.Error("a look tells something")
	}
	if a := s.Anchor(); a.Point != (api.Point{}) || len(a.Validators) != 0 || a.Churn != 0 || a.Decay != 0 {
		t.Error("Anchor:", a)
	}
	var c *chain.Chain
	var p *pool.Pool
	var g *ffg.Gadget
	if s.Chain() != c || s.Pool() != p || s.Gadget() != g || s.Copy() != nil {
		t.Error("a copy is something")
	}
}

// P18.3: two nil ones are the same, a zero one is as nil, and each other one is another one.
func TestSameNone(t *testing.T) {
	for _, a := range noStates() {
		for _, b := range noStates() {
			if !Same(a, b) {
				t.Error("two that are none are not the same")
			}
		}
		noughts := four()
		noughts.Point = api.Point{}
		for _, anchor := range []api.Anchor{four(), noughts, anchorOf(1, 0, 1)} {
			if isSame(t, newPair(t, anchor).s, a) {
				t.Error("one is the same as none")
			}
		}
	}
}
