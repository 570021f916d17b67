package slash

import (
	"cmp"
	"iter"
	"math"
	"slices"

	"landmark/api"
)

// sight is what tells soon whether one of some votes breaks a rule with another one of them: to hold each against each other one would take too long where there are thousands.
type sight struct {
	// split are the epochs to whose targets unlike links lead.
	split map[uint64]struct{}
	// far is, of each source's epoch, the last epoch to which earlier sources lead; near is the first one to which later sources do.
	far, near map[uint64]uint64
}

// sightOf is the sight of the links of some votes, which it sorts.
func sightOf(links []api.Link) sight {
	slices.SortFunc(links, func(a, b api.Link) int { return cmp.Compare(a.Source.Epoch, b.Source.Epoch) })
	return sight{
		split: splitOf(links),
		far:   reachOf(slices.All(links), 0, func(a, b uint64) uint64 { return max(a, b) }),
		near:  reachOf(slices.Backward(links), math.MaxUint64, func(a, b uint64) uint64 { return min(a, b) }),
	}
}

// breaks is whether a vote, one of those that the sight is of, breaks a rule with another one of them.
func (s sight) breaks(v api.Vote) bool {
	_, isSplit := s.split[v.Target.Epoch]
	return isSplit || s.far[v.Source.Epoch] > v.Target.Epoch || s.near[v.Source.Epoch] < v.Target.Epoch
}

func splitOf(links []api.Link) map[uint64]struct{} {
	first, split := map[uint64]api.Link{}, map[uint64]struct{}{}
	for _, l := range links {
		known, isKnown := first[l.Target.Epoch]
		switch {
		case !isKnown:
			first[l.Target.Epoch] = l
		case known != l:
			split[l.Target.Epoch] = struct{}{}
		}
	}
	return split
}

// reachOf is, of each source's epoch, how far all links lead that come ahead of those of that epoch, which stand beside each other.
func reachOf(links iter.Seq2[int, api.Link], start uint64, farther func(a, b uint64) uint64) map[uint64]uint64 {
	reach, reached := map[uint64]uint64{}, start
	for _, l := range links {
		if _, isKnown := reach[l.Source.Epoch]; !isKnown {
			reach[l.Source.Epoch] = reached
		}
		reached = farther(reached, l.Target.Epoch)
	}
	return reach
}
