package pool

import (
	"math/rand/v2"
	"slices"
	"testing"

	"landmark/api"
)

// mixed is a pool of some votes: of 4 keys and of 5 links, each of 2 keys and more.
func mixed(t *testing.T) *pair {
	t.Helper()
	o := newPair(t)
	for i := range 20 {
		if key := i % 4; i%5 != 3 || key > 1 {
			o.add(voteOf(1+key, 5, 6+i%5), keyOf(key), uint64(1+i))
		}
	}
	o.hold()
	return o
}

// What is handed in is not changed, and what becomes of it is nothing to the pool.
func TestHandedIn(t *testing.T) {
	o := mixed(t)
	v := voteOf(9, 70, 80)
	v.Sig = append(make([]byte, 0, 64), "some sig, and room"...)
	if e := o.p.Check(v, keyOf(9), 3); e != api.OK {
		t.Fatal(e)
	}
	o.add(v, keyOf(9), 3)
	if string(v.Sig) != "some sig, and room" || slices.Max(v.Sig[len(v.Sig):cap(v.Sig)]) != 0 {
		t.Error("what was handed in was changed")
	}
	o.hold()
	for i := range v.Sig {
		v.Sig[i]++
		o.hold()
	}
	spoilSig(v.Sig)
	v.Source, v.Target = v.Target, v.Source
	o.hold()
	// One signature, handed in with two votes, is two votes' own.
	o.add(v, keyOf(9), 3)
	o.add(v, keyOf(10), 3)
	spoilSig(v.Sig)
	o.hold()
	spoilSig(o.p.Of(keyOf(9))[1].Sig)
	o.hold()
	// What is refused isn't kept either, nor Check's.
	o.refuse(v, keyOf(10), 3, api.ErrExists)
	spoilSig(v.Sig)
	o.hold()
}

// What is answered is the caller's: changed, it changes nothing, neither of the pool nor of what is answered next, or was answered ahead.
func TestAnswered(t *testing.T) {
	o := mixed(t)
	for _, l := range o.m.links() {
		ahead := o.p.For(l)
		spoilSigned(o.p.For(l))
		if !o.m.link(l).isSigned(ahead) {
			t.Error("For: two answers share something")
		}
		_ = append(o.p.For(l), api.Signed{})
		o.hold()
	}
	for _, key := range o.m.keys() {
		ahead := o.p.Of(key)
		spoilVotes(o.p.Of(key))
		if !o.m.of(key).isVotes(ahead) {
			t.Error("Of: two answers share something")
		}
		o.hold()
	}
	ahead := o.p.Links()
	spoilLinks(o.p.Links())
	if !slices.Equal(ahead, o.m.links()) {
		t.Error("Links: two answers share something")
	}
	o.hold()
	all := gathered(t, o.p)
	for _, one := range o.p.All() {
		spoilSig(one.Vote.Sig)
	}
	if !o.m.isSigned(all) {
		t.Error("All: two answers share something")
	}
	spoilSigned(all)
	o.hold()
}

// The votes of one answer share no signature's memory, nor has one room that reaches into another one.
func TestAnswerApart(t *testing.T) {
	o := mixed(t)
	l := o.m.links()[0]
	for i := range o.m.link(l) {
		votes := o.p.For(l)
		spoilSig(votes[i].Vote.Sig)
		for j, e := range o.m.link(l) {
			if j != i && string(votes[j].Vote.Sig) != e.sig {
				t.Error("a signature has changed with another one's", i, j)
			}
		}
	}
}

// P12.2: All may be left at any time, and gone through again: whole each time, also what was changed of it ahead, and one way within another.
func TestAllLeftAndAgain(t *testing.T) {
	o := mixed(t)
	all, n := o.p.All(), len(o.m)
	for stop := range n + 1 {
		var seen []api.Signed
		for i, one := range all {
			if len(seen) == stop {
				break
			}
			if i != len(seen) || !o.m[i:i+1].isSigned([]api.Signed{one}) {
				t.Fatalf("stop %d: the number %d at place %d", stop, i, len(seen))
			}
			spoilSig(one.Vote.Sig)
			seen = append(seen, one)
		}
		if len(seen) != stop {
			t.Errorf("left behind %d, not %d", len(seen), stop)
		}
	}
	for range 2 {
		count := 0
		for i := range all {
			for j, one := range all {
				if j > i {
					break
				}
				if !o.m[j : j+1].isSigned([]api.Signed{one}) {
					t.Fatal("one way within another", i, j)
				}
				count++
			}
		}
		if count != n*(n+1)/2 {
			t.Error("one way within another:", count)
		}
	}
	o.hold()
}

// P12.2: All goes over the votes as they are when it is called: not over those that are added behind that, ahead of the way or on it.
func TestAllWhileAdded(t *testing.T) {
	o := mixed(t)
	before, all := o.m, o.p.All()
	next := 100
	more := func() {
		o.add(voteOf(1, next, next+1), keyOf(next), 1)
		o.add(voteOf(1, 5, 6), keyOf(next), 1)
		next++
	}
	more()
	for range 3 {
		var seen []api.Signed
		for i, one := range all {
			if i != len(seen) {
				t.Fatalf("the number %d at place %d", i, len(seen))
			}
			seen = append(seen, one)
			// Enough of them that what holds the votes has to grow.
			for range 4 {
				more()
			}
		}
		if !before.isSigned(seen) {
			t.Errorf("%d of %d", len(seen), len(before))
		}
	}
	o.hold()
	early := newPair(t)
	all = early.p.All()
	early.add(voteOf(1, 5, 6), keyOf(1), 1)
	for range all {
		t.Error("All of no votes")
	}
	early.hold()
}

// P12.2: a copy has all that there is, and goes on apart: what is added to one is not the other one's.
func TestCopy(t *testing.T) {
	o := mixed(t)
	c := &pair{t, o.p.Copy(), slices.Clone(o.m)}
	c.hold()
	// Now one, now the other one goes on, by links and keys that both have, and by such as are new.
	for i := range 20 {
		o.add(voteOf(1, 5, 6), keyOf(100+i), 3)
		c.hold()
		c.add(voteOf(2, 5, 6), keyOf(200+i), 5)
		o.hold()
		c.add(voteOf(2, 300+i, 7), keyOf(0), 7)
		o.hold()
		o.add(voteOf(1, 300+i, 8), keyOf(0), 9)
		c.hold()
	}
	o.hold()
	// What one has the other one may be given.
	c.add(voteOf(1, 5, 6), keyOf(100), 3)
	c.refuse(voteOf(1, 5, 6), keyOf(100), 3, api.ErrExists)
	o.refuse(voteOf(1, 5, 6), keyOf(100), 3, api.ErrExists)
	o.add(voteOf(1, 5, 6), keyOf(200), 3)
	c.hold()
}

// P12.2: a copy shares no list with what it is a copy of, however many votes a link, or a key, has, and though theirs stand at other places then.
func TestCopyShares(t *testing.T) {
	link, key := linkOf(5, 6), keyOf(3)
	for n := range 40 {
		for _, isCopyFirst := range []bool{false, true} {
			o := newPair(t)
			for i := range n {
				o.add(voteFor(1, link), keyOf(100+i), 1)
				o.add(voteOf(1, 7, 100+i), key, 1)
			}
			c := &pair{t, o.p.Copy(), slices.Clone(o.m)}
			if isCopyFirst {
				o, c = c, o
			}
			o.add(voteOf(1, 8, 9), keyOf(200), 1)
			for i := range 3 {
				o.add(voteFor(2, link), keyOf(300+i), 2)
				o.add(voteOf(2, 7, 300+i), key, 2)
				c.add(voteFor(3, link), keyOf(400+i), 3)
				c.add(voteOf(3, 7, 400+i), key, 3)
				o.holdLink(link)
				o.holdKey(key)
				c.holdLink(link)
				c.holdKey(key)
			}
			o.holdWhole()
			c.holdWhole()
		}
	}
}

// P12.2: of no votes a copy is one without votes, and goes on apart.
func TestCopyEmpty(t *testing.T) {
	o := newPair(t)
	c := &pair{t, o.p.Copy(), nil}
	c.hold()
	c.add(voteOf(1, 5, 6), keyOf(1), 1)
	o.hold()
	o.add(voteOf(1, 5, 6), keyOf(1), 2)
	c.hold()
}

// P12.2: copies of copies, at any step, and what is answered of one changed.
func TestCopies(t *testing.T) {
	source := rand.New(rand.NewPCG(12, 99))
	all := []*pair{newPair(t)}
	for range 60 {
		o := all[source.IntN(len(all))]
		c := &pair{t, o.p.Copy(), slices.Clone(o.m)}
		all = append(all, c)
		for range 3 {
			c.some(source)
			o.some(source)
		}
		spoilSigned(gathered(t, c.p))
		spoilLinks(c.p.Links())
		for _, key := range c.m.keys() {
			spoilVotes(c.p.Of(key))
		}
	}
	for _, o := range all {
		o.hold()
	}
}

// What All goes over, called ahead of a copy, is as it was then, whoever of both goes on.
func TestAllAndCopy(t *testing.T) {
	o := mixed(t)
	before, all := slices.Clone(o.m), o.p.All()
	c := &pair{t, o.p.Copy(), slices.Clone(o.m)}
	ofCopy := c.p.All()
	for i := range 9 {
		o.add(voteOf(1, 5, 6), keyOf(100+i), 3)
		c.add(voteOf(1, 5, 6), keyOf(200+i), 4)
	}
	for _, way := range []func(func(int, api.Signed) bool){all, ofCopy} {
		var seen []api.Signed
		for _, one := range way {
			seen = append(seen, one)
		}
		if !before.isSigned(seen) {
			t.Error("All is not what it was when it was called")
		}
		spoilSigned(seen)
	}
	o.hold()
	c.hold()
}

// A pool's value, assigned, is the same pool: what is added to one is the other one's, too.
func TestValueAssigned(t *testing.T) {
	o := mixed(t)
	value := *o.p
	o.add(voteOf(1, 90, 91), keyOf(1), 1)
	c := &pair{t, &value, o.m}
	c.hold()
	c.add(voteOf(1, 92, 93), keyOf(1), 1)
	c.hold()
	o.m = c.m
	o.hold()
}

// What is asked of one pool by many at once is the same for each.
func TestAskedByMany(t *testing.T) {
	o := mixed(t)
	l, key := o.m.links()[0], o.m.keys()[0]
	answers := make(chan bool)
	for range 8 {
		go func() {
			isWhole := o.p.Copy().Len() == len(o.m) && slices.Equal(o.p.Links(), o.m.links()) && o.m.link(l).isSigned(o.p.For(l)) && o.m.of(key).isVotes(o.p.Of(key))
			n := 0
			for range o.p.All() {
				n++
			}
			answers <- isWhole && n == o.p.Len() && o.p.Weight(l) == o.m.link(l).weight() && o.p.Check(voteFor(1, l), key, 1) == api.ErrExists
		}()
	}
	for range 8 {
		if !<-answers {
			t.Error("an answer is another one")
		}
	}
}
