package pool

import (
	"math/rand/v2"
	"testing"

	"landmark/api"
)

// P12.1: the chapter's example.
func TestExample(t *testing.T) {
	p := New()
	a, b, c := pointOf(1), pointOf(2), pointOf(3)
	toB, toC := api.Link{Source: a, Target: b}, api.Link{Source: a, Target: c}
	for _, given := range []struct {
		n                     int
		link                  api.Link
		stake, want, ofB, ofC uint64
	}{{1, toB, 5, 5, 5, 0}, {2, toB, 7, 12, 12, 0}, {1, toC, 5, 5, 12, 5}} {
		if w, e := p.Add(voteFor(given.n, given.link), keyOf(given.n), given.stake); w != given.want || e != api.OK {
			t.Error("Add:", w, e)
		}
		if p.Weight(toB) != given.ofB || p.Weight(toC) != given.ofC {
			t.Error("Weight:", p.Weight(toB), p.Weight(toC))
		}
	}
}

// P12.1: New is without votes, and each is its own.
func TestNew(t *testing.T) {
	one, two := newPair(t), newPair(t)
	one.hold()
	one.add(voteOf(1, 5, 6), keyOf(1), 1)
	two.hold()
	two.add(voteOf(1, 5, 6), keyOf(1), 2)
	one.hold()
	newPair(t).hold()
}

// P12.1: a vote that may not be, for each reason, at a pool that is empty and at one that has some.
func TestAddWrongVote(t *testing.T) {
	o := newPair(t)
	for range 3 {
		for _, v := range wrongVotes() {
			o.refuse(v, keyOf(3), 1, api.ErrArg)
		}
		for n := range 1000 {
			if v := voteOf(n-300, 5, 6); n-300 < 1 || n-300 > 64 {
				if w, e := o.p.Add(v, keyOf(3), 1); w != 0 || e != api.ErrArg {
					t.Fatal(n-300, w, e)
				}
			}
		}
		o.add(voteOf(3, 5, 6+len(o.m)), keyOf(3), 1)
	}
}

// P12.1: votes at the edges of what may be: each validator, epochs, signatures, links of any kind, keys of any kind.
func TestAddRightVotes(t *testing.T) {
	o := newPair(t)
	for n := 1; n <= 64; n++ {
		o.add(voteOf(n, 5, 6), keyOf(n), 1)
	}
	for i, epoch := range []uint64{0, 1, 5, 1<<32 + 1, api.MaxEpoch - 1, api.MaxEpoch} {
		for _, other := range []uint64{0, 7, api.MaxEpoch} {
			o.add(api.Vote{Validator: 1, Source: api.Point{Epoch: epoch}, Target: api.Point{Epoch: other, Name: allOf(byte(i))}}, keyOf(1), 1)
			o.add(api.Vote{Validator: 1, Source: api.Point{Epoch: other}, Target: api.Point{Epoch: epoch, Name: allOf(100 + byte(i))}}, keyOf(1), 1)
		}
	}
	for i, size := range []int{0, 1, 1216, 4095, 4096} {
		o.add(changed(voteOf(1, 8, 9), func(v *api.Vote) { v.Sig = make([]byte, size) }), keyOf(70+i), 1)
	}
	o.add(changed(voteOf(1, 8, 9), func(v *api.Vote) { v.Sig = nil }), keyOf(80), 1)
	for _, key := range []api.Hash{{}, allOf(255), {31: 1}, {1}} {
		o.add(voteOf(64, 11, 11), key, 1)
		o.add(voteOf(64, 12, 11), key, 1)
	}
	o.hold()
}

// P12.1: stakes from 1 to MaxStake, and no others.
func TestAddStakes(t *testing.T) {
	o := newPair(t)
	for _, stake := range wrongStakes {
		o.refuse(voteOf(1, 5, 6), keyOf(1), stake, api.ErrArg)
	}
	for i, stake := range rightStakes {
		o.add(voteOf(1+i, 5, 6), keyOf(1+i), stake)
		o.add(voteOf(1+i, 5, 7+i), keyOf(1+i), stake)
		o.hold()
	}
	for _, stake := range wrongStakes {
		o.refuse(voteOf(1, 5, 60), keyOf(1), stake, api.ErrArg)
		o.refuse(voteOf(60, 5, 6), keyOf(60), stake, api.ErrArg)
	}
}

// P12.1: no key has two votes of one link, whatever else of the second one is another one's.
func TestAddExists(t *testing.T) {
	o := newPair(t)
	v, key := voteOf(3, 5, 6), keyOf(3)
	o.add(v, key, 7)
	again := func() {
		t.Helper()
		o.refuse(v, key, 7, api.ErrExists)
		o.refuse(changed(v, func(v *api.Vote) { v.Sig = []byte("another sig") }), key, 7, api.ErrExists)
		o.refuse(changed(v, func(v *api.Vote) { v.Sig = nil }), key, 7, api.ErrExists)
		for _, n := range []int{1, 2, 4, 64} {
			o.refuse(changed(v, func(v *api.Vote) { v.Validator = n }), key, 7, api.ErrExists)
		}
		for _, stake := range rightStakes {
			o.refuse(v, key, stake, api.ErrExists)
		}
	}
	again()
	// Another key's vote of that link, by the very same vote too; and the key's votes of links that have parts of that one.
	o.add(v, keyOf(4), 7)
	o.add(v, api.Hash{}, 8)
	o.add(v, changed(key, func(key *api.Hash) { key[0] ^= 1 }), 9)
	for _, l := range []api.Link{linkOf(6, 5), linkOf(5, 7), linkOf(4, 6), linkOf(5, 5), linkOf(6, 6)} {
		o.add(voteFor(3, l), key, 7)
		o.refuse(voteFor(3, l), key, 7, api.ErrExists)
		again()
	}
	for _, change := range pointChanges {
		o.add(changed(v, func(v *api.Vote) { change(&v.Source) }), key, 7)
		o.add(changed(v, func(v *api.Vote) { change(&v.Target) }), key, 7)
	}
	again()
	o.hold()
}

// P12.1: of two that could be told the one that the chapter names first: what may not be, ahead of what is there already.
func TestAddTwoErrors(t *testing.T) {
	o := newPair(t)
	v, key := voteOf(3, 5, 6), keyOf(3)
	o.add(v, key, 7)
	o.refuse(v, key, 7, api.ErrExists)
	for _, stake := range wrongStakes {
		o.refuse(v, key, stake, api.ErrArg)
		o.refuse(changed(v, func(v *api.Vote) { v.Validator = 0 }), key, stake, api.ErrArg)
	}
	// Those whose link is there, too.
	for _, n := range []int{0, 65, -1} {
		o.refuse(changed(v, func(v *api.Vote) { v.Validator = n }), key, 7, api.ErrArg)
	}
	o.refuse(changed(v, func(v *api.Vote) { v.Sig = make([]byte, 4097) }), key, 7, api.ErrArg)
	var none *Pool
	for _, p := range []*Pool{none, {}} {
		for _, v := range append(wrongVotes(), v) {
			for _, stake := range []uint64{0, 1, api.MaxStake + 1} {
				if w, e := p.Add(v, key, stake); w != 0 || e != api.ErrNil {
					t.Error("Add:", w, e)
				}
				if e := p.Check(v, key, stake); e != api.ErrNil {
					t.Error("Check:", e)
				}
			}
		}
	}
}

// filled is a pool of as many votes as there may be: the i-th of the key and of the link that it is told.
func filled(t *testing.T, n int, who, where func(i int) int) *Pool {
	t.Helper()
	p, weights := New(), map[int]uint64{}
	for i := range n {
		v, key, stake := voteOf(1+i%64, 0, where(i)), keyOf(who(i)), uint64(1+i%7)
		if e := p.Check(v, key, stake); e != api.OK {
			t.Fatalf("Check of %d: %v", i, e)
		}
		weights[where(i)] += stake
		if w, e := p.Add(v, key, stake); w != weights[where(i)] || e != api.OK || p.Len() != i+1 {
			t.Fatalf("Add of %d: %d, %v", i, w, e)
		}
	}
	return p
}

// P12.1: MaxVotes votes, and one more; one more that exists, one that may not be, and what becomes of all looks.
func TestAddFull(t *testing.T) {
	for name, shape := range map[string][2]func(int) int{
		"one link":        {func(i int) int { return i }, func(int) int { return 1 }},
		"one key":         {func(int) int { return 1 }, func(i int) int { return i }},
		"all unlike":      {func(i int) int { return i }, func(i int) int { return i }},
		"256 keys, links": {func(i int) int { return i % 256 }, func(i int) int { return i / 256 }},
	} {
		t.Run(name, func(t *testing.T) {
			p := filled(t, 65536, shape[0], shape[1])
			there, last := voteOf(1, 0, shape[1](9)), voteOf(1, 0, shape[1](65535))
			for _, given := range []struct {
				v     api.Vote
				key   api.Hash
				stake uint64
				want  api.Errno
			}{
				{voteOf(1, 0, 70000), keyOf(70000), 1, api.ErrFull},
				{voteOf(1, 0, 70000), keyOf(shape[0](9)), 1, api.ErrFull},
				{there, keyOf(70000), 1, api.ErrFull},
				{there, keyOf(shape[0](9)), 1, api.ErrExists},
				{last, keyOf(shape[0](65535)), 2, api.ErrExists},
				{there, keyOf(shape[0](9)), 0, api.ErrArg},
				{voteOf(1, 0, 70000), keyOf(70000), 0, api.ErrArg},
				{voteOf(65, 0, 70000), keyOf(70000), 1, api.ErrArg},
			} {
				for range 2 {
					if e := p.Check(given.v, given.key, given.stake); e != given.want {
						t.Errorf("Check: %v; want %v", e, given.want)
					}
					if w, e := p.Add(given.v, given.key, given.stake); w != 0 || e != given.want {
						t.Errorf("Add: %d, %v; want %v", w, e, given.want)
					}
				}
			}
			if p.Len() != 65536 || p.Weight(linkOf(0, 70000)) != 0 || len(p.Of(keyOf(70000))) != 0 {
				t.Error("what was refused has changed something")
			}
			holdFull(t, p, shape[0], shape[1])
		})
	}
}

// holdFull holds all looks at a pool of filled: it goes over the votes once, since over a model's list it would take long.
func holdFull(t *testing.T, p *Pool, who, where func(i int) int) {
	t.Helper()
	var links []api.Link
	weights, ofLinks, ofKeys := map[api.Link]uint64{}, map[api.Link]model{}, map[api.Hash]model{}
	all := gathered(t, p)
	for i := range p.Len() {
		one := entryOf(voteOf(1+i%64, 0, where(i)), keyOf(who(i)), uint64(1+i%7))
		if got := all[i]; entryOf(got.Vote, got.Key, got.Stake) != one {
			t.Fatal("All:", i, got)
		}
		if len(ofLinks[one.link]) == 0 {
			links = append(links, one.link)
		}
		weights[one.link] += one.stake
		ofLinks[one.link] = append(ofLinks[one.link], one)
		ofKeys[one.key] = append(ofKeys[one.key], one)
	}
	got := p.Links()
	if len(got) != len(links) {
		t.Fatal("Links:", len(got))
	}
	for i, l := range links {
		if got[i] != l || p.Weight(l) != weights[l] || p.Voters(l) != len(ofLinks[l]) || !ofLinks[l].isSigned(p.For(l)) {
			t.Fatal("of the link", i)
		}
	}
	for key, want := range ofKeys {
		if !want.isVotes(p.Of(key)) {
			t.Fatalf("Of %x", key)
		}
	}
}

// P12.1, P12.2: a full pool's copy is full too, and one that was copied a vote ahead of that takes one more.
func TestCopyFull(t *testing.T) {
	p := filled(t, 65535, func(i int) int { return i }, func(i int) int { return i % 300 })
	o := p.Copy()
	for i, p := range []*Pool{p, o} {
		if _, e := p.Add(voteOf(1, 1, i), keyOf(1), 1); e != api.OK || p.Len() != 65536 {
			t.Error(i, e)
		}
		if _, e := p.Copy().Add(voteOf(1, 1, 2), keyOf(1), 1); e != api.ErrFull {
			t.Error(i, e)
		}
	}
	if p.Weight(linkOf(1, 1)) != 0 || o.Weight(linkOf(1, 0)) != 0 {
		t.Error("a vote is the other one's")
	}
}

// P12.1: Check ahead of each Add, among votes that are refused; all looks behind them.
func TestAddByChance(t *testing.T) {
	for seed := range uint64(12) {
		source := rand.New(rand.NewPCG(12, seed))
		o, codes := newPair(t), map[api.Errno]int{}
		for range 150 {
			codes[o.some(source)]++
			if source.IntN(20) == 0 {
				o.hold()
			}
		}
		o.hold()
		if codes[api.OK] < 30 || codes[api.ErrExists] < 10 || codes[api.ErrArg] < 2 {
			t.Errorf("of seed %d: %v", seed, codes)
		}
	}
}
