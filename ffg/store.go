package ffg

import (
	"cmp"
	"maps"
	"slices"

	"landmark/api"
)

// standing is what has become of a checkpoint: who is final is justified, too.
type standing int

const (
	unjustified standing = iota
	justified
	final
)

// store is the links, in the order in which they were told, and what follows of them.
type store struct {
	links []api.Link
	told  map[api.Link]struct{}
	// stands has those that are justified, or final, and no others.
	stands map[api.Point]standing
	// waiting has, by their sources, the links whose source is not justified yet: nothing has followed of them.
	waiting map[api.Point][]api.Link
}

// begin is a store without links.
func begin(anchor api.Point) *store {
	return &store{told: map[api.Link]struct{}{}, stands: map[api.Point]standing{anchor: final}, waiting: map[api.Point][]api.Link{}}
}

func (s *store) has(l api.Link) bool {
	_, isTold := s.told[l]
	return isTold
}

// put adds a link that may be told.
func (s *store) put(l api.Link) {
	s.links = append(s.links, l)
	s.told[l] = struct{}{}
	if s.stands[l.Source] == unjustified {
		s.waiting[l.Source] = append(s.waiting[l.Source], l)
		return
	}
	s.follow(l)
}

// follow finds what follows of a link whose source is justified: each of those that waited for its target is such a one then.
func (s *store) follow(l api.Link) {
	links := []api.Link{l}
again:
	var next []api.Link
	for _, l := range links {
		if l.Target.Epoch == l.Source.Epoch+1 {
			s.stands[l.Source] = final
		}
		if s.stands[l.Target] == unjustified {
			s.stands[l.Target] = justified
			next = append(next, s.waiting[l.Target]...)
			delete(s.waiting, l.Target)
		}
	}
	if len(next) > 0 {
		links = next
		goto again
	}
}

// all are those that stand so at least, in no order.
func (s *store) all(least standing) []api.Point {
	var points []api.Point
	for p, stands := range s.stands {
		if stands >= least {
			points = append(points, p)
		}
	}
	return points
}

func (s *store) sorted(least standing) []api.Point {
	points := s.all(least)
	slices.SortFunc(points, compare)
	return points
}

// last is the last one of those that stand so at least. A gadget has one always, the anchor; of nil there is none.
func (s *store) last(least standing) api.Point {
	points := s.all(least)
	if len(points) == 0 {
		return api.Point{}
	}
	return slices.MaxFunc(points, compare)
}

// clone is a store in new memory.
func (s *store) clone() *store {
	c := &store{slices.Clone(s.links), maps.Clone(s.told), maps.Clone(s.stands), map[api.Point][]api.Link{}}
	// Lists of links that were shared would be written on by both.
	for source, links := range s.waiting {
		c.waiting[source] = slices.Clone(links)
	}
	return c
}

// compare is the order of checkpoints: by Epoch, then by Name.
func compare(a, b api.Point) int {
	return cmp.Or(cmp.Compare(a.Epoch, b.Epoch), slices.Compare(a.Name[:], b.Name[:]))
}
