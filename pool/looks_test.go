package pool

import (
	"math/rand/v2"
	"slices"
	"testing"

	"landmark/api"
)

// P12.2: all looks at a pool without votes, and at one of one vote.
func TestLooksFew(t *testing.T) {
	o := newPair(t)
	o.hold()
	for _, l := range []api.Link{{}, linkOf(5, 6), linkOf(6, 5)} {
		if o.p.Weight(l) != 0 || o.p.Voters(l) != 0 || len(o.p.For(l)) != 0 {
			t.Error("something of no votes")
		}
	}
	if len(o.p.Links()) != 0 || len(o.p.Of(api.Hash{})) != 0 || o.p.Len() != 0 {
		t.Error("something of no votes")
	}
	for range o.p.All() {
		t.Error("All of no votes")
	}
	o.add(voteOf(3, 5, 6), keyOf(3), 7)
	o.hold()
	if l := linkOf(5, 6); o.p.Weight(l) != 7 || o.p.Voters(l) != 1 || !slices.Equal(o.p.Links(), []api.Link{l}) || o.p.Len() != 1 {
		t.Error("of one vote")
	}
}

// P12.2: the order of Links, Of, For and All, where links and keys are mixed, and neither stands by its epoch, its name, its number or its weight.
func TestOrder(t *testing.T) {
	o := newPair(t)
	high, low, mid := linkOf(90, 300), linkOf(7, 8), linkOf(50, 49)
	for i, given := range []struct {
		key  int
		link api.Link
	}{{9, high}, {4, low}, {9, low}, {6, mid}, {2, high}, {4, high}, {4, mid}, {6, low}, {2, low}, {9, mid}} {
		o.add(voteFor(1+i, given.link), keyOf(given.key), uint64(100-i))
		o.hold()
	}
	numbers := func(l []api.Signed) []int {
		var n []int
		for _, one := range l {
			n = append(n, one.Vote.Validator)
		}
		return n
	}
	if l := o.p.Links(); !slices.Equal(l, []api.Link{high, low, mid}) {
		t.Error("Links:", l)
	}
	for _, given := range []struct{ got, want []int }{
		{numbers(o.p.For(high)), []int{1, 5, 6}},
		{numbers(o.p.For(low)), []int{2, 3, 8, 9}},
		{numbers(o.p.For(mid)), []int{4, 7, 10}},
		{numbers(gathered(t, o.p)), []int{1, 2, 3, 4, 5, 6, 7, 8, 9, 10}},
	} {
		if !slices.Equal(given.got, given.want) {
			t.Error(given.got, "want", given.want)
		}
	}
	for key, want := range map[int][]int{9: {1, 3, 10}, 4: {2, 6, 7}, 6: {4, 8}, 2: {5, 9}, 1: nil} {
		var got []int
		for _, v := range o.p.Of(keyOf(key)) {
			got = append(got, v.Validator)
		}
		if !slices.Equal(got, want) {
			t.Error("Of", key, got, "want", want)
		}
	}
}

// P12.2: each look, of links whose parts are those of others: each of 5 checkpoints to each, in an order by chance, and held at each step.
func TestLooksOfAllLinks(t *testing.T) {
	source := rand.New(rand.NewPCG(12, 55))
	o := newPair(t)
	for _, n := range source.Perm(25) {
		for _, key := range source.Perm(3)[:1+n%3] {
			o.add(voteOf(1+key, n/5, n%5), keyOf(key), uint64(1+n))
		}
		o.hold()
	}
	// The same epochs under other names, and the same names at other epochs.
	for i, change := range pointChanges {
		o.add(changed(voteOf(1, 1, 2), func(v *api.Vote) { change(&v.Source); change(&v.Target) }), keyOf(i%3), 1000)
		o.hold()
	}
}

// P12.2: For and All tell a vote whole, with its key and its stake; Of the vote.
func TestVoteWhole(t *testing.T) {
	o := newPair(t)
	v := api.Vote{Validator: 64, Source: api.Point{Epoch: api.MaxEpoch, Name: allOf(1)}, Target: api.Point{Epoch: 3, Name: allOf(2)}, Sig: slices.Repeat([]byte{3, 4}, 2048)}
	o.add(v, allOf(5), api.MaxStake)
	want := entry{64, api.Link{Source: api.Point{Epoch: 1 << 62, Name: allOf(1)}, Target: api.Point{Epoch: 3, Name: allOf(2)}}, string(slices.Repeat([]byte{3, 4}, 2048)), allOf(5), 1 << 32}
	for _, l := range [][]api.Signed{o.p.For(LinkOf(v)), gathered(t, o.p)} {
		if len(l) != 1 || entryOf(l[0].Vote, l[0].Key, l[0].Stake) != want {
			t.Error(l)
		}
	}
	if l := o.p.Of(allOf(5)); len(l) != 1 || entryOf(l[0], allOf(5), 1<<32) != want {
		t.Error(l)
	}
}

// P12.2: a vote's link, whatever else the vote has, also of one that may not be.
func TestLinkOf(t *testing.T) {
	if l := LinkOf(api.Vote{}); l != (api.Link{}) {
		t.Error(l)
	}
	l := linkOf(5, 6)
	for _, v := range []api.Vote{voteFor(1, l), voteFor(64, l), {Source: l.Source, Target: l.Target}, {Validator: -9, Source: l.Source, Target: l.Target, Sig: make([]byte, 5000)}} {
		if LinkOf(v) != l {
			t.Error(LinkOf(v))
		}
	}
	for _, v := range wrongVotes() {
		if got := LinkOf(v); got.Source != v.Source || got.Target != v.Target {
			t.Error(got)
		}
	}
	if LinkOf(voteOf(1, 6, 5)) != turned(l) || LinkOf(voteOf(1, 6, 5)) == l {
		t.Error("the other way round")
	}
}

// P12.2: of nil, and of a zero one, there is nothing, and what tells an error tells ErrNil.
func TestNil(t *testing.T) {
	var none *Pool
	for _, p := range []*Pool{none, {}, new(Pool)} {
		for _, v := range []api.Vote{{}, voteOf(1, 5, 6)} {
			w, e := p.Add(v, keyOf(1), 1)
			if c := p.Check(v, keyOf(1), 1); w != 0 || e != api.ErrNil || c != api.ErrNil {
				t.Error(w, e, c)
			}
			l := LinkOf(v)
			for i, x := range []any{p.Weight(l), p.Voters(l), p.Links(), p.Of(keyOf(1)), p.Of(api.Hash{}), p.For(l), p.Len(), p.Copy()} {
				if !isNothing(x) {
					t.Errorf("%d: %v of nil", i, x)
				}
			}
		}
		all := p.All()
		if all == nil {
			t.Fatal("All of nil can't be gone over")
		}
		for range all {
			t.Error("All of nil")
		}
		for range all {
			t.Error("All of nil, again")
		}
	}
}
