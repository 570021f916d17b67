package pool

import (
	"math/rand/v2"
	"slices"
	"testing"

	"landmark/api"
)

// P12.2, P12.3: weights of many votes of MaxStake each, in which no sum goes round: of 64, as many as validators there are, and of as many as votes there may be.
func TestGreatWeights(t *testing.T) {
	p, l := New(), linkOf(5, 6)
	for i := range 65536 {
		want := uint64(i+1) << 32
		if w, e := p.Add(voteFor(1+i%64, l), keyOf(i), api.MaxStake); w != want || e != api.OK {
			t.Fatalf("vote %d: %d, %v", i, w, e)
		}
		if w := p.Weight(l); w != want || p.Voters(l) != i+1 {
			t.Fatalf("vote %d: Weight %d", i, w)
		}
		if i == 63 && p.Weight(l) != 274877906944 {
			t.Fatal("64 of 2^32:", p.Weight(l))
		}
	}
	if p.Weight(l) != 281474976710656 || p.Weight(turned(l)) != 0 {
		t.Error(p.Weight(l))
	}
}

// told is what a pool tells of weights.
func told(p *Pool) map[api.Link][2]uint64 {
	m := map[api.Link][2]uint64{}
	for _, l := range p.Links() {
		m[l] = [2]uint64{p.Weight(l), uint64(p.Voters(l))}
	}
	return m
}

// votesByChance are votes of which no two are of one key and one link.
func votesByChance(source *rand.Rand, n int) []api.Signed {
	o := []api.Signed{}
	for _, i := range source.Perm(150)[:n] {
		stake := 1 + source.Uint64N(100)
		if i%10 == 0 {
			stake = api.MaxStake
		}
		o = append(o, api.Signed{Vote: voteOf(1+i%7, i%5, i%6), Key: keyOf(i / 30), Stake: stake})
	}
	return o
}

// P12.3: the same votes in other orders have the same weights, of which each is its own votes' alone.
func TestOrders(t *testing.T) {
	for seed := range uint64(8) {
		source := rand.New(rand.NewPCG(123, seed))
		votes := votesByChance(source, 80)
		var want map[api.Link][2]uint64
		for try := range 20 {
			o := newPair(t)
			for _, one := range votes {
				o.add(one.Vote, one.Key, one.Stake)
			}
			o.hold()
			got := told(o.p)
			if try == 0 {
				want = got
			}
			if len(got) != len(want) {
				t.Fatal("links:", len(got), len(want))
			}
			for l, w := range want {
				if got[l] != w {
					t.Fatalf("the weight of %v: %v; was %v", l, got[l], w)
				}
			}
			if try == 0 {
				slices.Reverse(votes)
				continue
			}
			source.Shuffle(len(votes), func(i, j int) { votes[i], votes[j] = votes[j], votes[i] })
		}
	}
}

// P12.3: all orders of few votes, and of a link's weight alone: other links' votes among them are nothing to it.
func TestAllOrders(t *testing.T) {
	votes := []api.Signed{
		{Vote: voteOf(1, 5, 6), Key: keyOf(1), Stake: 3}, {Vote: voteOf(2, 5, 6), Key: keyOf(2), Stake: api.MaxStake}, {Vote: voteOf(1, 6, 5), Key: keyOf(1), Stake: 5},
		{Vote: voteOf(3, 5, 6), Key: keyOf(3), Stake: 7}, {Vote: voteOf(1, 5, 7), Key: keyOf(1), Stake: 11},
	}
	count := 0
	var inOrders func(o, left []api.Signed)
	inOrders = func(o, left []api.Signed) {
		if len(left) > 0 {
			for i := range left {
				inOrders(append(slices.Clone(o), left[i]), slices.Delete(slices.Clone(left), i, i+1))
			}
			return
		}
		count++
		p := New()
		for _, one := range o {
			if _, e := p.Add(one.Vote, one.Key, one.Stake); e != api.OK {
				t.Fatal(e)
			}
		}
		if p.Weight(linkOf(5, 6)) != api.MaxStake+10 || p.Weight(linkOf(6, 5)) != 5 || p.Weight(linkOf(5, 7)) != 11 {
			t.Fatal("an order's weights", told(p))
		}
	}
	inOrders(nil, votes)
	if count != 120 {
		t.Error(count)
	}
}

// P12.3: no weight ever falls, whatever is given, and only an accepted vote's own link's rises, by its stake.
func TestOnlyGrows(t *testing.T) {
	for seed := range uint64(8) {
		source := rand.New(rand.NewPCG(124, seed))
		o := newPair(t)
		for range 200 {
			before, n := told(o.p), len(o.m)
			e := o.some(source)
			after := told(o.p)
			if e == api.OK {
				last := o.m[n]
				w := before[last.link]
				before[last.link] = [2]uint64{w[0] + last.stake, w[1] + 1}
			}
			if len(after) != len(before) {
				t.Fatal("links:", len(after), len(before))
			}
			for l, w := range before {
				if after[l] != w {
					t.Fatalf("of %v: %v; want %v", l, after[l], w)
				}
			}
		}
	}
}
