package cert

import (
	"math"
	"reflect"
	"slices"
	"strconv"
	"testing"

	"landmark/api"
)

// holdMay wants that answer of May; what may not be told has no bytes, no stake, and does not check, in a register that is right.
func holdMay(t *testing.T, c api.Cert, want bool, why string) {
	t.Helper()
	given := cloneCert(c)
	if May(c) != want || mayTold(c) != want {
		t.Errorf("%s: May: %v, and %v by the words; want %v", why, May(c), mayTold(c), want)
	}
	if b, e := Bytes(c); (e == api.OK) != want || e != api.OK && (e != api.ErrArg || len(b) > 0) {
		t.Errorf("%s: Bytes: %d bytes, %v", why, len(b), e)
	}
	r := register(1000, 1000, 1000, 1)
	if !want && (Check(r, c) != api.ErrArg || Stake(r, c) != 0) {
		t.Errorf("%s: Check: %v; Stake: %d", why, Check(r, c), Stake(r, c))
	}
	if !same(c, given) {
		t.Errorf("%s: what was handed in was changed", why)
	}
}

// unsigned is a certificate of votes with a signature that is none.
func unsigned(l api.Link, numbers ...int) api.Cert {
	c := api.Cert{Link: l}
	for _, n := range numbers {
		c.Votes = append(c.Votes, changed(bare(n, l), func(v *api.Vote) { v.Sig = []byte("sig") }))
	}
	return c
}

// P15.1: so many votes as may be, and more; what is signed, or who is active, is nothing to it.
func TestMayCount(t *testing.T) {
	l := ordinary()
	holdMay(t, api.Cert{}, false, "a zero one")
	holdMay(t, api.Cert{Link: l}, false, "no vote")
	holdMay(t, api.Cert{Link: l, Votes: []api.Vote{}}, false, "no vote")
	holdMay(t, cert(l, 1), true, "one vote")
	holdMay(t, cert(l, 1, 2, 3), true, "three votes")
	holdMay(t, unsigned(l, 64), true, "one vote, the last one's")
	holdMay(t, unsigned(l, numbersTo(63)...), true, "63 votes")
	holdMay(t, unsigned(l, numbersTo(64)...), true, "64 votes")
	holdMay(t, unsigned(l, numbersTo(65)...), false, "65 votes")
	holdMay(t, unsigned(l, append(numbersTo(64), 64)...), false, "65 votes, the last one's twice")
	holdMay(t, unsigned(l, append([]int{1}, numbersTo(64)...)...), false, "65 votes, the first one's twice")
	holdMay(t, unsigned(l, append([]int{0}, numbersTo(64)...)...), false, "65 votes, the first one nobody's")
	holdMay(t, unsigned(l, numbersTo(300)...), false, "300 votes")
	holdMay(t, api.Cert{Link: l, Votes: []api.Vote{bare(7, l), bare(9, l)}}, true, "votes without signatures")
}

// P15.1: each choice of few numbers, in each order.
func TestMayOrder(t *testing.T) {
	l := ordinary()
	for a := range 5 {
		for b := range 5 {
			holdMay(t, unsigned(l, a, b), 1 <= a && a < b, "two votes")
			for c := range 5 {
				holdMay(t, unsigned(l, a, b, c), 1 <= a && a < b && b < c, "three votes")
			}
		}
	}
	for n := range 64 {
		rising := numbersTo(64)
		holdMay(t, unsigned(l, slices.Delete(slices.Clone(rising), n, n+1)...), true, "all but one")
		if n > 0 {
			rising[n-1], rising[n] = rising[n], rising[n-1]
			holdMay(t, unsigned(l, rising...), false, "two that fall")
			rising[n-1] = rising[n]
			holdMay(t, unsigned(l, rising...), false, "one twice")
		}
	}
}

// P15.1: a vote of a link that differs in one part alone, at each place; then all of them, without the certificate's own.
func TestMayOtherLink(t *testing.T) {
	l := ordinary()
	for part, change := range partChanges() {
		other := changed(l, change)
		for i := range 3 {
			c := cert(l, 1, 2, 3)
			c.Votes[i] = vote(i+1, other)
			holdMay(t, c, false, part)
		}
		c := cert(l, 1, 2, 3)
		c.Link = other
		holdMay(t, c, false, part+", of the certificate")
		holdMay(t, cert(other, 1, 2, 3), true, part+", of all")
	}
	holdMay(t, api.Cert{Votes: votes(l, 1, 2, 3)}, false, "no link")
	holdMay(t, cert(api.Link{}, 1, 2, 3), true, "a zero link")
	holdMay(t, cert(api.Link{Source: l.Target, Target: l.Source}, 1, 2, 3), true, "a link back")
	holdMay(t, cert(api.Link{Source: l.Source, Target: l.Source}, 1, 2, 3), true, "a link to its own source")
	turned := cert(l, 1, 2, 3)
	turned.Link = api.Link{Source: l.Target, Target: l.Source}
	holdMay(t, turned, false, "votes the other way round")
}

// P15.1: a vote that may not be, for each reason of layer 9, at each place.
func TestMayWrongVote(t *testing.T) {
	l := ordinary()
	for i := range 3 {
		for name, wrong := range wrongVotes(i+1, l) {
			c := cert(l, 1, 2, 3)
			c.Votes[i] = wrong
			holdMay(t, c, false, name)
			holdMay(t, api.Cert{Link: l, Votes: []api.Vote{wrong}}, false, name+", alone")
			holdMay(t, api.Cert{Link: linkOf(wrong), Votes: []api.Vote{wrong}}, false, name+", alone, of its own link")
		}
	}
	for _, size := range []int{0, 1, 1216, 4095, 4096} {
		c := cert(l, 1, 2, 3)
		c.Votes[1].Sig = make([]byte, size)
		holdMay(t, c, true, "a signature of "+strconv.Itoa(size))
	}
}

// P15.1: a link whose source's or target's epoch is at the edge, or above it, all votes being of it.
func TestMayWrongLink(t *testing.T) {
	for _, l := range wrongLinks() {
		holdMay(t, cert(l, 1, 2, 3), false, "a point that may not be")
		holdMay(t, cert(l, 1), false, "a point that may not be")
		holdMay(t, api.Cert{Link: l}, false, "a point that may not be, and no vote")
	}
	for _, epoch := range []uint64{0, 1, 1<<32 + 1, mostEpoch - 1, mostEpoch} {
		holdMay(t, cert(api.Link{Source: at(epoch), Target: at(6)}, 1, 2, 3), true, "a source's epoch")
		holdMay(t, cert(api.Link{Source: at(5), Target: at(epoch)}, 1, 2, 3), true, "a target's epoch")
		holdMay(t, cert(api.Link{Source: at(epoch), Target: at(epoch)}, 1, 2, 3), true, "both epochs")
	}
}

// P15.3: both are the same: nil lists as empty ones, copies, and such as may not be.
func TestSame(t *testing.T) {
	l := ordinary()
	all := []api.Cert{
		{}, {Link: l}, cert(l, 1), cert(l, 1, 2, 3), cert(l, 2, 1), cert(l, 3, 3), unsigned(l, 1, 2, 3), unsigned(l, numbersTo(64)...), unsigned(l, numbersTo(70)...),
		{Link: l, Votes: []api.Vote{{}}}, {Link: l, Votes: []api.Vote{{}, {}}}, {Link: wrongLinks()[0], Votes: votes(l, 1)}, {Votes: []api.Vote{{Validator: math.MinInt, Sig: make([]byte, 9999)}}},
	}
	for i, a := range all {
		for j, b := range all {
			if Same(a, b) != (i == j) || Same(a, cloneCert(b)) != (i == j) {
				t.Errorf("%d and %d: %v", i, j, Same(a, b))
			}
		}
	}
	if !Same(api.Cert{Link: l}, api.Cert{Link: l, Votes: []api.Vote{}}) || !Same(api.Cert{Link: l, Votes: []api.Vote{}}, api.Cert{Link: l}) {
		t.Error("nil and empty votes")
	}
	none, empty := api.Cert{Link: l, Votes: []api.Vote{bare(1, l)}}, api.Cert{Link: l, Votes: []api.Vote{bare(1, l)}}
	empty.Votes[0].Sig = []byte{}
	if !Same(none, empty) || !Same(empty, none) {
		t.Error("nil and empty signatures")
	}
}

// P15.3: each part changed alone, and changed back.
func TestSameParts(t *testing.T) {
	l := ordinary()
	changes := map[string]func(*api.Cert){
		"a vote less":         func(c *api.Cert) { c.Votes = c.Votes[:2] },
		"another vote less":   func(c *api.Cert) { c.Votes = c.Votes[1:] },
		"no votes":            func(c *api.Cert) { c.Votes = nil },
		"a vote more":         func(c *api.Cert) { c.Votes = append(c.Votes, vote(4, l)) },
		"a zero vote more":    func(c *api.Cert) { c.Votes = append(c.Votes, api.Vote{}) },
		"a vote twice":        func(c *api.Cert) { c.Votes = append(c.Votes, c.Votes[2]) },
		"another order":       func(c *api.Cert) { c.Votes[0], c.Votes[1] = c.Votes[1], c.Votes[0] },
		"another order still": func(c *api.Cert) { c.Votes[1], c.Votes[2] = c.Votes[2], c.Votes[1] },
	}
	for part, change := range partChanges() {
		changes[part] = func(c *api.Cert) { change(&c.Link) }
		for i := range 3 {
			changes[part+" of the vote "+strconv.Itoa(i)] = func(c *api.Cert) {
				other := linkOf(c.Votes[i])
				change(&other)
				c.Votes[i].Source, c.Votes[i].Target = other.Source, other.Target
			}
		}
	}
	for i := range 3 {
		vote := " of the vote " + strconv.Itoa(i)
		changes["the validator"+vote] = func(c *api.Cert) { c.Votes[i].Validator += 256 }
		changes["no signature"+vote] = func(c *api.Cert) { c.Votes[i].Sig = nil }
		changes["a byte less"+vote] = func(c *api.Cert) { c.Votes[i].Sig = c.Votes[i].Sig[:1215] }
		changes["a byte more"+vote] = func(c *api.Cert) { c.Votes[i].Sig = append(c.Votes[i].Sig, 0) }
		for _, place := range []int{0, 600, 1215} {
			changes["the byte "+strconv.Itoa(place)+vote] = func(c *api.Cert) { c.Votes[i].Sig[place] ^= 128 }
		}
	}
	c := cert(l, 1, 2, 3)
	for name, change := range changes {
		other := cloneCert(c)
		if !Same(c, other) || !Same(other, c) {
			t.Fatal("a copy is another one")
		}
		change(&other)
		given := cloneCert(other)
		if Same(c, other) || Same(other, c) || !Same(other, given) {
			t.Errorf("%s: the same", name)
		}
		if !reflect.DeepEqual(c, cert(l, 1, 2, 3)) || !reflect.DeepEqual(other, given) {
			t.Errorf("%s: what was handed in was changed", name)
		}
	}
}
