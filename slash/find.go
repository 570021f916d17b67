package slash

import (
	"bytes"
	"cmp"
	"slices"

	"landmark/api"
)

// pair is where two votes stand.
type pair struct{ first, other int }

// Find finds evidence.
func Find(l []api.Signed) []api.Evidence {
	var pairs []pair
	for _, places := range placesOf(l) {
		if p, isOne := firstPair(l, places); isOne {
			pairs = append(pairs, p)
		}
	}
	// A vote is one key's: no two pairs have one first place.
	slices.SortFunc(pairs, func(p, q pair) int { return cmp.Compare(p.first, q.first) })
	var found []api.Evidence
	for _, p := range pairs {
		a, b := l[p.first], l[p.other]
		found = append(found, api.Evidence{Key: a.Key, A: cloneVote(a.Vote), B: cloneVote(b.Vote)})
	}
	return found
}

// placesOf is where each key's votes stand, in order.
func placesOf(l []api.Signed) map[api.Hash][]int {
	keys := map[api.Hash][]int{}
	for place, one := range l {
		keys[one.Key] = append(keys[one.Key], place)
	}
	return keys
}

// firstPair is the first two, of the votes at these places, that break the rules.
func firstPair(l []api.Signed, places []int) (pair, bool) {
	var links []api.Link
	for _, place := range places {
		links = append(links, linkOf(l[place].Vote))
	}
	s := sightOf(links)
	at := slices.IndexFunc(places, func(place int) bool { return s.breaks(l[place].Vote) })
	if at < 0 {
		return pair{}, false
	}
	first, rest := places[at], places[at+1:]
	// With what it breaks a rule stands behind it: all ahead of it break none.
	other := slices.IndexFunc(rest, func(place int) bool { return Breaks(l[first].Vote, l[place].Vote) })
	return pair{first, rest[other]}, true
}

func cloneVote(v api.Vote) api.Vote {
	v.Sig = bytes.Clone(v.Sig)
	return v
}

// Named are the keys of evidence.
func Named(l []api.Evidence) []api.Hash {
	var named []api.Hash
	seen := map[api.Hash]struct{}{}
	for _, e := range l {
		if _, isSeen := seen[e.Key]; !isSeen {
			seen[e.Key] = struct{}{}
			named = append(named, e.Key)
		}
	}
	return named
}
