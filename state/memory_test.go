package state

import (
	"slices"
	"testing"

	"landmark/api"
	"landmark/codec"
)

// spoilVote changes a vote's signature, and what lies behind it where it has room.
func spoilVote(v *api.Vote) {
	sig := v.Sig[:cap(v.Sig)]
	for i := range sig {
		sig[i] ^= 255
	}
}

// spoil changes all that an input has in other memory.
func spoil(i *api.Input) {
	for n := range i.Header.Ops {
		for m := range i.Header.Ops[n].Evidence {
			spoilVote(&i.Header.Ops[n].Evidence[m])
			i.Header.Ops[n].Evidence[m].Source.Epoch++
		}
		i.Header.Ops[n].Key[3] ^= 1
		i.Header.Ops[n].Validator++
	}
	spoilVote(&i.Vote)
	for n := range i.Anchor.Validators {
		i.Anchor.Validators[n].Key[3] ^= 1
		i.Anchor.Validators[n].Stake++
	}
}

// What is handed in is the caller's: written over behind Apply, it changes nothing.
func TestHandedIn(t *testing.T) {
	a := four()
	o := newPair(t, a)
	o.m = newModel(four())
	for n := range a.Validators {
		a.Validators[n] = api.Validator{Key: allOf(9), Stake: 99}
	}
	o.hold()
	// give gives an input, and spoils it behind that.
	give := func(i api.Input) api.Point {
		given := cloneInput(i)
		p := o.take(given)
		if !sameInput(given, i) {
			t.Fatal("what was handed in was changed")
		}
		spoil(&given)
		o.hold()
		return p
	}
	six := give(headerOf(root(o), 6, deposit(5, 1), exit(4)))
	x := give(headerOf(root(o), 6, exit(4)))
	one, other := voteOf(t, 2, root(o), six), voteOf(t, 2, root(o), x)
	give(one)
	give(other)
	seven := give(headerOf(six, 7, slashOf(2, one, other)))
	give(voteOf(t, 1, root(o), six))
	give(voteOf(t, 3, root(o), six))
	give(voteOf(t, 1, six, seven))
	give(readingOf(16))
	give(anchorInput(o.newAnchor(seven, 50)))
	give(headerOf(seven, 8, exit(1)))
}

// What is refused is not kept: written over, it changes nothing; and it may be given anew, changed.
func TestHandedInRefused(t *testing.T) {
	o := newPair(t, four())
	six := o.header(root(o), 6)
	wrong := voteOf(t, 1, root(o), six)
	wrong.Vote.Sig[9] ^= 1
	o.refuse(api.ErrSig, wrong)
	wrong.Vote.Sig[9] ^= 1
	o.take(wrong)
	spoil(&wrong)
	o.hold()
}

// What is told is the caller's: written over, it changes neither the state nor other answers.
func TestTold(t *testing.T) {
	o, l := mixed(t)
	for range 2 {
		for _, i := range o.s.Inputs() {
			spoil(&i)
		}
		inputs := o.s.Inputs()
		clear(inputs[:cap(inputs)])
		o.hold()
		a := o.s.Anchor()
		for n := range a.Validators {
			a.Validators[n] = api.Validator{}
		}
		o.hold()
		for _, p := range l {
			r, _ := o.s.Register(p.Name)
			clear(r.Members[:cap(r.Members)])
			clear(r.Coming[:cap(r.Coming)])
			clear(r.Going[:cap(r.Going)])
		}
		o.hold()
		for _, e := range o.s.Evidence() {
			spoilVote(&e.A)
			spoilVote(&e.B)
		}
		justified := o.s.Justified()
		clear(justified[:cap(justified)])
		o.hold()
	}
	// What stands in a register is not what its children's are made of.
	r, _ := o.s.Register(l[3].Name)
	for n := range r.Members {
		r.Members[n].Status = api.MemberGone
	}
	o.header(l[3], 9)
	o.hold()
}

// Two answers share nothing, nor two lists of one answer.
func TestToldTwice(t *testing.T) {
	o, _ := mixed(t)
	first, second := o.s.Inputs(), o.s.Inputs()
	kept := make([]api.Input, len(first))
	for n, i := range first {
		kept[n] = cloneInput(i)
	}
	for n := range first {
		if !sameInput(first[n], kept[n]) {
			t.Fatal("two lists of one answer are one")
		}
		spoil(&first[n])
	}
	if !slices.EqualFunc(second, kept, sameInput) {
		t.Error("two answers share something")
	}
	one, other := o.s.Anchor(), o.s.Anchor()
	one.Validators[0].Stake = 77
	if !codec.SameAnchor(other, o.m.anchor) {
		t.Error("two anchors share something")
	}
	evidence, again := o.s.Evidence(), o.s.Evidence()
	for n := range evidence {
		spoilVote(&evidence[n].A)
		if !codec.SameVote(evidence[n].B, again[n].B) {
			t.Error("two votes share something")
		}
		spoilVote(&evidence[n].B)
	}
	if !slices.EqualFunc(again, o.m.evidence(), sameEvidence) {
		t.Error("two answers share something")
	}
}

// What is told of a copy is nothing to what it is a copy of.
func TestToldOfCopy(t *testing.T) {
	o, l := mixed(t)
	c := o.copied()
	r, _ := c.s.Register(l[2].Name)
	r.Members[0].Stake = 77
	a := c.s.Anchor()
	a.Validators[0].Stake = 77
	for _, i := range c.s.Inputs() {
		spoil(&i)
	}
	o.hold()
	c.hold()
}

// What many ask of one state at once is the same for each, also what is only looked at.
func TestAskedByMany(t *testing.T) {
	o, l := mixed(t)
	inputs, evidence := o.s.Inputs(), o.s.Evidence()
	right, wrong := headerOf(l[3], 9), voteOf(t, 1, l[0], l[1])
	answers := make(chan bool)
	for range 8 {
		go func() {
			p, e := o.s.FinalPoint()
			r, _ := o.s.Register(l[3].Name)
			is := p == l[1] && e == api.OK && len(r.Members) == 7 && slices.EqualFunc(o.s.Inputs(), inputs, sameInput) && slices.EqualFunc(o.s.Evidence(), evidence, sameEvidence)
			answers <- is && o.s.Check(right) == api.OK && o.s.Check(wrong) == api.ErrExists && Same(o.s, o.s.Copy())
		}()
	}
	for range 8 {
		if !<-answers {
			t.Error("an answer is another one")
		}
	}
	o.hold()
}
