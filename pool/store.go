package pool

import (
	"bytes"
	"maps"
	"slices"

	"landmark/api"
)

// tally is what a link's votes weigh, and where they stand.
type tally struct {
	weight uint64
	places []int
}

// ballot is what there is one vote of at most.
type ballot struct {
	key  api.Hash
	link api.Link
}

// store is the votes, in the order in which they came, and where those of a link, and of a key, stand. A vote is not changed once it is there, so that copies of a pool, and who goes over it, may keep it.
type store struct {
	votes   []api.Signed
	links   []api.Link
	tallies map[api.Link]tally
	keys    map[api.Hash][]int
	ballots map[ballot]struct{}
}

// begin is a store without votes.
func begin() *store {
	return &store{tallies: map[api.Link]tally{}, keys: map[api.Hash][]int{}, ballots: map[ballot]struct{}{}}
}

func (s *store) has(key api.Hash, l api.Link) bool {
	_, isThere := s.ballots[ballot{key, l}]
	return isThere
}

// put adds a vote that may be added. The weight can't go round: MaxVotes stakes are at most 2^48.
func (s *store) put(one api.Signed) {
	place, l := len(s.votes), LinkOf(one.Vote)
	t, isKnown := s.tallies[l]
	if !isKnown {
		s.links = append(s.links, l)
	}
	s.tallies[l] = tally{t.weight + one.Stake, append(t.places, place)}
	s.keys[one.Key] = append(s.keys[one.Key], place)
	s.ballots[ballot{one.Key, l}] = struct{}{}
	s.votes = append(s.votes, one)
}

// gather does something with each vote that stands at one of these places; what it is handed is its own.
func (s *store) gather(places []int, take func(api.Signed)) {
	for _, place := range places {
		take(cloneSigned(s.votes[place]))
	}
}

// clone is a store in new memory, but for the votes' signatures.
func (s *store) clone() *store {
	c := &store{slices.Clone(s.votes), slices.Clone(s.links), maps.Clone(s.tallies), maps.Clone(s.keys), maps.Clone(s.ballots)}
	// Lists of places that were shared would be written on by both.
	for l, t := range s.tallies {
		c.tallies[l] = tally{t.weight, slices.Clone(t.places)}
	}
	for key, places := range s.keys {
		c.keys[key] = slices.Clone(places)
	}
	return c
}

func cloneSigned(one api.Signed) api.Signed {
	one.Vote.Sig = bytes.Clone(one.Vote.Sig)
	return one
}
