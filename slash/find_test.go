package slash

import (
	"math"
	"math/rand/v2"
	"slices"
	"testing"

	"landmark/api"
)

// P14.2: no vote, one, and two of one key and of two.
func TestFindFew(t *testing.T) {
	wantFound(t, nil)
	wantFound(t, []api.Signed{})
	wantFound(t, []api.Signed{{}})
	wantFound(t, []api.Signed{{}, {}})
	wantFound(t, list("a57"))
	wantFound(t, list("a57", "a67"), found{0, 1})
	wantFound(t, list("a59", "a68"), found{0, 1})
	wantFound(t, list("a68", "a59"), found{0, 1})
	wantFound(t, list("a57", "a78"))
	wantFound(t, list("a57", "a58"))
	wantFound(t, list("a57", "b67"))
	wantFound(t, list("a59", "b68"))
	// Of a key of noughts, too.
	l := list("a57", "a67")
	l[0].Key, l[1].Key = api.Hash{}, api.Hash{}
	wantFound(t, l, found{0, 1})
	l[1].Key = api.Hash{31: 1}
	wantFound(t, l)
}

// P14.2: links that differ in one part alone, of one key, in both orders.
func TestFindOnePart(t *testing.T) {
	v := vote(5, 8)
	for part, change := range partChanges() {
		w := changed(v, change)
		for _, l := range [][]api.Signed{{{Vote: v}, {Vote: w}}, {{Vote: w}, {Vote: v}}} {
			if len(holdFind(t, l)) != 1 != (part == "the target's epoch") {
				t.Error(part)
			}
		}
	}
}

// P14.2: of a key's pairs the first one has the first place of all, and then the other one.
func TestFindFirst(t *testing.T) {
	// The first one breaks a rule with either of the other two, or the last one does.
	wantFound(t, list("a57", "a67", "a47"), found{0, 1})
	wantFound(t, list("a57", "a78", "a67"), found{0, 2})
	wantFound(t, list("a78", "a57", "a67"), found{1, 2})
	wantFound(t, list("a78", "a57", "a67", "a47"), found{1, 2})
	// Two break a rule with one, and none with each other.
	wantFound(t, list("a19", "a23", "a45"), found{0, 1})
	wantFound(t, list("a45", "a23", "a19"), found{0, 2})
	wantFound(t, list("a45", "a19", "a23"), found{0, 1})
	// A pair that comes early and late, beside one that is closer together: within it, across its end, and behind its beginning.
	wantFound(t, list("a57", "a78", "a88", "a67"), found{0, 3})
	wantFound(t, list("a57", "a89", "a79", "a67"), found{0, 3})
	wantFound(t, list("a57", "a67", "a89", "a79"), found{0, 1})
	wantFound(t, list("a57", "a34", "a89", "a67", "a79"), found{0, 3})
	wantFound(t, list("a34", "a89", "a57", "a79", "a67", "a24"), found{0, 5})
	// The other one is the first that breaks a rule with it, not the first that breaks one.
	wantFound(t, list("a12", "a57", "a89", "a79", "a67", "a47"), found{1, 4})
}

// P14.2: like votes break none with each other, and each is one by its own place.
func TestFindSameVote(t *testing.T) {
	wantFound(t, list("a57", "a57"))
	wantFound(t, list("a57", "a57", "a57", "a57"))
	wantFound(t, list("a57", "a57", "a67", "a67"), found{0, 2})
	wantFound(t, list("a68", "a68", "a59", "a59"), found{0, 2})
	l := list("a57", "a57", "a57", "b57", "b57")
	for i := range l {
		l[i].Vote.Validator = 1 + i
		l[i].Stake = uint64(i)
	}
	wantFound(t, l)
	l = append(l, list("b67", "a67")...)
	wantFound(t, l, found{0, 6}, found{3, 5})
}

// P14.2: keys mixed: what is found stands by the first ones' places, also where the other ones' places and the keys go crosswise.
func TestFindKeys(t *testing.T) {
	wantFound(t, list("a57", "b57", "b67", "a67"), found{0, 3}, found{1, 2})
	wantFound(t, list("b57", "a57", "a67", "b67"), found{0, 3}, found{1, 2})
	wantFound(t, list("a57", "b57", "a67", "b67"), found{0, 2}, found{1, 3})
	wantFound(t, list("c57", "b57", "a57", "c67", "a67", "b67"), found{0, 3}, found{1, 5}, found{2, 4})
	// Whose first vote comes first, but whose first one that breaks a rule comes late.
	wantFound(t, list("a12", "b57", "a57", "b67", "a67"), found{1, 3}, found{2, 4})
	wantFound(t, list("a12", "b57", "a57", "a67", "b67"), found{1, 4}, found{2, 3})
	// Some break none, or with another key's alone.
	wantFound(t, list("a57", "b67", "c68", "c59", "a78", "b56"), found{2, 3})
	wantFound(t, list("a57", "b67", "c47", "a78", "b78", "c78"))
	// One pair of a key at most, however many it has.
	wantFound(t, list("a57", "a67", "a57", "a67", "b12", "a12", "a02", "b02"), found{0, 1}, found{4, 7})
}

// P14.2: keys that are like each other but for a bit.
func TestFindLikeKeys(t *testing.T) {
	l := list("a57")
	for bit := range 256 {
		one := list("a67")[0]
		one.Key[bit/8] ^= 1 << (bit % 8)
		l = append(l, one)
	}
	wantFound(t, l)
	wantFound(t, append(l, list("a47")...), found{0, 257})
}

// P14.2: signatures, stakes and numbers are not looked at, nor whether a vote may be.
func TestFindUnlooked(t *testing.T) {
	for _, sig := range [][]byte{nil, {}, {1}, make([]byte, 1216), make([]byte, 4097)} {
		for _, n := range []int{1, 0, 65, -1, math.MinInt} {
			for _, stake := range []uint64{0, 1, math.MaxUint64} {
				l := list("a57", "b68", "a67", "b59", "c57", "c57")
				for i := range l {
					l[i].Vote.Sig, l[i].Vote.Validator, l[i].Stake = sig, n+i%2, stake
				}
				wantFound(t, l, found{0, 2}, found{1, 3})
			}
		}
	}
	for _, pair := range [][2]api.Vote{
		{vote(0, math.MaxUint64), vote(1, math.MaxUint64-1)}, {vote(5, math.MaxUint64), vote(6, math.MaxUint64)}, {vote(0, 0), vote(math.MaxUint64, 0)},
		{vote(9, 1), vote(5, 3)}, {vote(9, 1), vote(5, 1)}, {vote(0, mostEpoch+1), vote(mostEpoch, mostEpoch)}, {vote(7, 7), vote(6, 8)},
	} {
		wantFound(t, []api.Signed{{Vote: pair[0]}, {Vote: pair[1]}}, found{0, 1})
		wantFound(t, []api.Signed{{Vote: pair[1]}, {Vote: pair[0]}}, found{0, 1})
	}
	for _, pair := range [][2]api.Vote{{vote(0, math.MaxUint64), vote(1, 0)}, {vote(math.MaxUint64, math.MaxUint64), vote(0, 0)}, {vote(0, 0), vote(0, math.MaxUint64)}, {vote(math.MaxUint64, 0), vote(math.MaxUint64, 1)}, {vote(0, 0), vote(math.MaxUint64, math.MaxUint64)}} {
		holdFind(t, []api.Signed{{Vote: pair[0]}, {Vote: pair[1]}})
	}
}

// P14.2: each list of up to four votes of one key, of few links.
func TestFindAll(t *testing.T) {
	links := []api.Vote{vote(1, 2), vote(1, 3), vote(2, 3), vote(0, 4), link(at(1), named(2, 2)), vote(3, 4)}
	count := 0
	var with func(l []api.Signed)
	with = func(l []api.Signed) {
		holdFind(t, l)
		count++
		if len(l) == 4 {
			return
		}
		for i, v := range links {
			v.Sig = []byte{byte(i), byte(len(l))}
			with(append(slices.Clone(l), api.Signed{Vote: v, Key: keyOf(1)}))
		}
	}
	with(nil)
	if count != 1+6+36+216+1296 {
		t.Error(count)
	}
}

// P14.2: lists by chance, of few keys and of many, of few epochs and of many.
func TestFindByChance(t *testing.T) {
	sizes := map[int]int{}
	for seed := range uint64(1500) {
		source := rand.New(rand.NewPCG(14, seed))
		l := someVotes(source, source.IntN(40), 1+source.IntN(6), []uint64{4, 12, 60, 1000}[seed%4], 1+source.IntN(2))
		if seed%7 == 0 {
			for i := range l {
				l[i].Vote.Source.Epoch += math.MaxUint64 - 1100
				l[i].Vote.Target.Epoch += math.MaxUint64 - 1100
			}
		}
		sizes[min(2, len(holdFind(t, l)))]++
	}
	if sizes[0] < 200 || sizes[1] < 200 || sizes[2] < 200 {
		t.Error(sizes)
	}
}

// many is how many votes a long list has: to hold each against each other one would take minutes.
const many = 100000

// P14.2, P0.6: many votes of one key that break no rule, with two at the end that do, or one with the first one; forwards, backwards, and among each other.
func TestFindMany(t *testing.T) {
	var line []api.Signed
	for i := range many {
		line = append(line, api.Signed{Vote: vote(uint64(i+5), uint64(i+6)), Key: keyOf(1)})
	}
	round := api.Signed{Vote: vote(many+99, many+300), Key: keyOf(1)}
	inner := api.Signed{Vote: vote(many+100, many+200), Key: keyOf(1)}
	first := api.Signed{Vote: vote(4, 6), Key: keyOf(1)}
	shuffled := slices.Clone(line)
	rand.New(rand.NewPCG(14, 2)).Shuffle(many, func(i, j int) { shuffled[i], shuffled[j] = shuffled[j], shuffled[i] })
	back := slices.Clone(line)
	slices.Reverse(back)
	for _, l := range [][]api.Signed{line, shuffled, back} {
		wantFound(t, l)
		wantFound(t, append(slices.Clone(l), round, inner), found{many, many + 1})
		place := slices.IndexFunc(l, func(one api.Signed) bool { return one.Vote.Target.Epoch == 6 })
		wantFound(t, append(slices.Clone(l), first), found{place, many})
		wantFound(t, append(slices.Clone(l), round, inner, first), found{place, many + 2})
		wantFound(t, slices.Concat([]api.Signed{round, first}, l, []api.Signed{inner}), found{0, many + 2})
	}
}

// P14.2, P0.6: the same vote many times, many votes of one target's epoch, many one round the other, and many keys of a pair each.
func TestFindManyShapes(t *testing.T) {
	same := slices.Repeat(list("a57"), many)
	wantFound(t, same)
	wantFound(t, append(slices.Clone(same), list("a67", "a47")...), found{0, many})
	var nested, split, pairs []api.Signed
	for i := range uint64(many) {
		nested = append(nested, api.Signed{Vote: vote(many-i, many+5+i)})
		split = append(split, api.Signed{Vote: vote(i, many)})
		pairs = append(pairs, api.Signed{Vote: vote(5, 6), Key: keyOf(int(i))})
	}
	wantFound(t, nested, found{0, 1})
	slices.Reverse(nested)
	wantFound(t, nested, found{0, 1})
	wantFound(t, split, found{0, 1})
	wantFound(t, pairs)
	var places []found
	for i := range many {
		places = append(places, found{i, 2*many - 1 - i})
	}
	for i := range many {
		pairs = append(pairs, api.Signed{Vote: vote(4, 6), Key: keyOf(many - 1 - i)})
	}
	wantFound(t, pairs, places...)
}

// findByKeys is what Find is to answer of a long list: each key's votes are gone over apart.
func findByKeys(l []api.Signed) []found {
	keys := map[api.Hash][]int{}
	for i, one := range l {
		keys[one.Key] = append(keys[one.Key], i)
	}
	var all []found
	for _, places := range keys {
		var own []api.Signed
		for _, place := range places {
			own = append(own, l[place])
		}
		for _, p := range find(own) {
			all = append(all, found{places[p.first], places[p.other]})
		}
	}
	slices.SortFunc(all, func(p, q found) int { return p.first - q.first })
	return all
}

// P14.2: as many votes as there may be, by chance, of as many keys as there may be members.
func TestFindPool(t *testing.T) {
	source := rand.New(rand.NewPCG(14, 3))
	l := someVotes(source, api.MaxVotes, api.MaxValidators, 1<<20, 1)
	places := findByKeys(l)
	if len(places) < 20 || len(places) == api.MaxValidators {
		t.Error("of so many votes by chance most keys have two that break the rules, not all:", len(places))
	}
	wantFound(t, l, places...)
	// Of each key a line of links, of which no two break a rule.
	for i := range l {
		l[i].Vote.Source, l[i].Vote.Target = at(uint64(i)), at(uint64(i+1))
	}
	wantFound(t, l)
}

// P14.2: Named are the keys, each once, by their first places.
func TestNamed(t *testing.T) {
	a, b, c := keyOf(1), keyOf(2), keyOf(3)
	for _, given := range []struct{ keys, want []api.Hash }{
		{nil, nil}, {[]api.Hash{}, nil}, {[]api.Hash{{}}, []api.Hash{{}}}, {[]api.Hash{a}, []api.Hash{a}}, {[]api.Hash{a, a}, []api.Hash{a}},
		{[]api.Hash{a, b}, []api.Hash{a, b}}, {[]api.Hash{b, a}, []api.Hash{b, a}}, {[]api.Hash{c, a, b}, []api.Hash{c, a, b}},
		{[]api.Hash{b, a, b, c, a, c, b}, []api.Hash{b, a, c}}, {[]api.Hash{c, c, {}, a, {}, b}, []api.Hash{c, {}, a, b}},
	} {
		var l []api.Evidence
		for _, key := range given.keys {
			// What is named hangs on the keys alone.
			l = append(l, api.Evidence{Key: key, A: vote(uint64(len(l)), 9)})
		}
		for range 2 {
			if got := Named(l); !slices.Equal(got, given.want) {
				t.Errorf("Named of %x: %x; want %x", given.keys, got, given.want)
			}
		}
	}
	if got := Named([]api.Evidence{}); len(got) != 0 {
		t.Error(got)
	}
}

// P14.2: keys that are like each other but for a bit, and many of them, many times.
func TestNamedMany(t *testing.T) {
	var keys []api.Hash
	for bit := range 256 {
		keys = append(keys, changed(keyOf(5), func(h *api.Hash) { h[bit/8] ^= 1 << (bit % 8) }))
	}
	for i := range 50000 {
		keys = append(keys, keyOf(140000+i))
	}
	slices.Reverse(keys)
	var l []api.Evidence
	for range 10 {
		for _, key := range keys {
			l = append(l, api.Evidence{Key: key})
		}
		slices.Reverse(keys)
	}
	if got := Named(l); !slices.Equal(got, keys) {
		t.Error(len(got))
	}
}
