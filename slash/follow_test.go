package slash

import (
	"math/rand/v2"
	"slices"
	"testing"

	"landmark/api"
	"landmark/key"
)

// someVote is a vote of any kind, of many epochs or of few.
func someVote(source *rand.Rand) api.Vote {
	point := func() api.Point {
		p := named([]uint64{source.Uint64(), source.Uint64N(6), mostEpoch - source.Uint64N(4)}[source.IntN(3)], byte(source.IntN(3)))
		if source.IntN(3) == 0 {
			p.Name[source.IntN(32)] ^= byte(source.Uint32())
		}
		return p
	}
	return api.Vote{Validator: source.IntN(70) - 3, Source: point(), Target: point(), Sig: make([]byte, source.IntN(5))}
}

// P14.1, P14.3: votes by chance: both orders are answered the same, and none breaks a rule with itself.
func TestBreaksByChance(t *testing.T) {
	source := rand.New(rand.NewPCG(14, 4))
	count := map[bool]int{}
	for range 20000 {
		a, b := someVote(source), someVote(source)
		if source.IntN(4) == 0 {
			b.Source = a.Source
		}
		if source.IntN(4) == 0 {
			b.Target = a.Target
		}
		count[holdBreaks(t, a, b)]++
	}
	if count[true] < 4000 || count[false] < 4000 {
		t.Error(count)
	}
}

// P14.3: what Sign tells is signed by the key's root, and by no other key's, whatever may be signed.
func TestSignByChance(t *testing.T) {
	source := rand.New(rand.NewPCG(14, 5))
	l := keys("a", "b", "c")
	count := 0
	for range 400 {
		v := someVote(source)
		k := l[source.IntN(len(l))]
		s, e := Sign(v, k)
		if (e == api.OK) != mayVote(v) || e != api.OK && (e != api.ErrArg || !isNoVote(s)) {
			t.Fatalf("Sign of %v: %v", v, e)
		}
		if e != api.OK {
			continue
		}
		count++
		if !sameVote(s, changed(v, func(v *api.Vote) { v.Sig = s.Sig })) {
			t.Fatalf("Sign of %v: %v", v, s)
		}
		for _, other := range l {
			want := api.ErrSig
			if other == k {
				want = api.OK
			}
			wantSigned(t, s, other.Root(), want, "by chance")
		}
	}
	if count < 100 {
		t.Error(count)
	}
}

// road is links from the anchor's checkpoint on, by rising epochs, over checkpoints of a name; the last one is to the next epoch, so that its source, which is not the anchor, is final.
func road(source *rand.Rand, name byte) []api.Vote {
	points := []api.Point{at(5)}
	for range 1 + source.IntN(4) {
		points = append(points, named(points[len(points)-1].Epoch+1+source.Uint64N(4), name))
	}
	points = append(points, named(points[len(points)-1].Epoch+1, name))
	var links []api.Vote
	for i, p := range points[1:] {
		links = append(links, link(points[i], p))
	}
	return links
}

// voted are the votes of some roads' links, each by all of four keys but one.
func voted(t *testing.T, source *rand.Rand, keys []*key.Key, roads ...[]api.Vote) []api.Signed {
	t.Helper()
	var l []api.Signed
	for _, v := range slices.Concat(roads...) {
		missing := source.IntN(len(keys))
		for i, k := range keys {
			if i != missing {
				v.Validator = 1 + i
				l = append(l, api.Signed{Vote: signed(t, v, k), Key: k.Root(), Stake: 1})
			}
		}
	}
	source.Shuffle(len(l), func(i, j int) { l[i], l[j] = l[j], l[i] })
	return l
}

// P14.3, P0.3: where two roads each lead to a final one, on branches that part, each link being three of four's, evidence is found against two of the four at least, and all of it checks.
func TestTwoFinals(t *testing.T) {
	voters := keys("a", "b", "c", "d")
	for seed := range uint64(60) {
		source := rand.New(rand.NewPCG(15, seed))
		l := voted(t, source, voters, road(source, 2), road(source, 3))
		holdFind(t, l)
		all := Find(l)
		for _, e := range all {
			if code := Check(e); code != api.OK {
				t.Errorf("seed %d: %v", seed, code)
			}
		}
		if n := len(Named(all)); n < 2 || n != len(all) {
			t.Errorf("seed %d: %d named, of %d", seed, n, len(all))
		}
	}
}

// P14.3: who votes along one road alone is never found, nor who goes over from a road that ends to one that begins behind it.
func TestOneRoad(t *testing.T) {
	voters := keys("a", "b", "c", "d")
	for seed := range uint64(30) {
		source := rand.New(rand.NewPCG(16, seed))
		first := road(source, 2)
		on := road(source, 3)
		for i := range on {
			on[i].Source.Epoch += 100
			on[i].Target.Epoch += 100
		}
		l := voted(t, source, voters, first, on)
		if holdFind(t, l); len(Find(l)) != 0 {
			t.Errorf("seed %d: %v", seed, toldEvidence(Find(l)))
		}
	}
}

// P14.3: of the votes of one key evidence is found, if and only if two of them are evidence, in either order.
func TestFoundChecks(t *testing.T) {
	k := key.Make(key.Seed("a"))
	sizes := map[int]int{}
	for seed := range uint64(40) {
		source := rand.New(rand.NewPCG(17, seed))
		l := someVotes(source, 5, 1, 20, 1)
		for i := range l {
			l[i] = api.Signed{Vote: signed(t, changed(l[i].Vote, func(v *api.Vote) { v.Validator = 1 + i }), k), Key: k.Root()}
		}
		is := false
		for _, a := range l {
			for _, b := range l {
				is = is || Check(api.Evidence{Key: k.Root(), A: a.Vote, B: b.Vote}) == api.OK
			}
		}
		all := Find(l)
		if is != (len(all) == 1) {
			t.Errorf("seed %d: %v; evidence: %v", seed, told(l), toldEvidence(all))
		}
		for _, e := range all {
			holdCheck(t, e, api.OK, "what was found")
		}
		sizes[len(all)]++
	}
	if sizes[0] < 5 || sizes[1] < 5 {
		t.Error(sizes)
	}
}
