package ffg

import (
	"math/rand/v2"
	"slices"
	"testing"

	"landmark/api"
)

// mixed is a gadget of links of all kinds: some wait, for one source several of them.
func mixed(t *testing.T) *pair {
	t.Helper()
	o := newPair(t, at(5))
	o.tell(from(5, 6), from(6, 7), from(7, 9), link(at(5), named(6, 2)), link(named(6, 2), named(8, 2)))
	o.tell(from(20, 21), from(20, 22), link(at(20), named(21, 2)), from(21, 22), from(30, 31), from(4, 5))
	o.hold()
	return o
}

// copied is a copy, and a model of its own.
func (o *pair) copied() *pair { return &pair{o.t, o.g.Copy(), o.m} }

// What is answered is the caller's: changed, it changes nothing, neither of the gadget nor of what was answered ahead.
func TestAnswered(t *testing.T) {
	o := mixed(t)
	known, sure, links := o.g.AllJustified(), o.g.AllFinal(), o.g.Links()
	for range 2 {
		spoil(o.g.AllJustified(), at(77))
		o.hold()
		spoil(o.g.AllFinal(), at(77))
		o.hold()
		spoil(o.g.Links(), from(77, 78))
		o.hold()
	}
	if !slices.Equal(known, o.m.justified()) || !slices.Equal(sure, o.m.final()) || !slices.Equal(links, o.m.links) {
		t.Error("two answers share something")
	}
	// An answer is of its own time.
	o.tell(from(9, 10), from(9, 20), from(10, 11))
	o.hold()
	if len(known) == len(o.m.justified()) || len(sure) == len(o.m.final()) || len(links) == len(o.m.links) || known[0] != at(5) || links[0] != from(5, 6) {
		t.Error("an answer has changed")
	}
	spoil(known, at(78))
	spoil(sure, at(78))
	spoil(links, from(78, 79))
	o.hold()
	o.refuse(from(20, 21), api.ErrExists)
}

// P13.3: a copy has all that there is, and goes on apart, both ways: what is told to one is not told to the other one.
func TestCopy(t *testing.T) {
	o := mixed(t)
	c := o.copied()
	c.hold()
	for i := range uint64(12) {
		o.tell(from(20, 40+i))
		c.hold()
		c.tell(from(20, 60+i), from(30, 60+i))
		o.hold()
		o.tell(from(7, 80+i))
		c.hold()
		c.tell(from(7, 100+i), from(100+i, 101+i))
		o.hold()
	}
	// What waited in both follows in the one that is told so.
	o.tell(from(9, 20))
	c.hold()
	o.hold()
	c.tell(from(5, 30))
	c.hold()
	o.hold()
	// What one was told the other one may be told, and is refused what both were told.
	c.tell(from(20, 40), from(9, 20))
	c.refuse(from(20, 21), api.ErrExists)
	o.refuse(from(20, 21), api.ErrExists)
	o.tell(from(5, 30), from(20, 60))
	o.hold()
	c.hold()
}

// P13.3: a copy shares no list with what it is a copy of, however many links there are, or wait for one source.
func TestCopyShares(t *testing.T) {
	for n := range uint64(40) {
		for _, isCopyFirst := range []bool{false, true} {
			o := newPair(t, at(5))
			for i := range n {
				o.tell(from(20, 21+i))
			}
			c := o.copied()
			if isCopyFirst {
				o, c = c, o
			}
			for i := range uint64(3) {
				o.tell(from(20, 100+i))
				c.tell(from(20, 200+i))
			}
			o.tell(from(5, 20))
			c.tell(link(at(5), named(6, 2)))
			o.holdWhole(o.m.justified(), o.m.final())
			c.holdWhole(c.m.justified(), c.m.final())
			c.tell(from(5, 20))
			c.holdWhole(c.m.justified(), c.m.final())
			o.holdWhole(o.m.justified(), o.m.final())
		}
	}
}

// P13.3: of no links a copy is one without links, and goes on apart.
func TestCopyEmpty(t *testing.T) {
	o := newPair(t, at(5))
	c := o.copied()
	c.hold()
	c.tell(from(5, 6), from(8, 9))
	o.hold()
	o.tell(from(5, 7))
	c.hold()
	o.hold()
}

// P13.3: copies of copies, at any step, and what is answered of one changed.
func TestCopies(t *testing.T) {
	source := rand.New(rand.NewPCG(13, 99))
	all := []*pair{newPair(t, at(5))}
	for range 60 {
		o := all[source.IntN(len(all))]
		c := o.copied()
		all = append(all, c)
		for range 4 {
			c.give(some(source))
			o.give(some(source))
		}
		spoil(c.g.AllJustified(), at(77))
		spoil(c.g.AllFinal(), at(77))
		spoil(c.g.Links(), from(77, 78))
	}
	for _, o := range all {
		o.hold()
	}
}

// A gadget's value, assigned, is the same gadget: what is told to one is told to the other one, too.
func TestValueAssigned(t *testing.T) {
	o := mixed(t)
	value := *o.g
	o.tell(from(9, 10))
	c := &pair{t, &value, o.m}
	c.hold()
	c.tell(from(9, 20))
	c.hold()
	o.m = c.m
	o.hold()
}

// What is asked of one gadget by many at once is the same for each.
func TestAskedByMany(t *testing.T) {
	o := mixed(t)
	want := toldBy(o.g)
	answers := make(chan bool)
	for range 8 {
		go func() {
			isSame := toldBy(o.g).same(want) && toldBy(o.g.Copy()).same(want) && slices.Equal(o.g.Links(), o.m.links)
			answers <- isSame && o.g.Justified(at(9)) && !o.g.Justified(at(20)) && o.g.Final(at(6)) && !o.g.Final(at(7)) && o.g.Strong(from(20, 21)) == api.ErrExists
		}()
	}
	for range 8 {
		if !<-answers {
			t.Error("an answer is another one")
		}
	}
}
