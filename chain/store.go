package chain

import (
	"slices"

	"landmark/api"
)

// anchorPlace is where the anchor stands: ahead of all headers.
const anchorPlace = 0

// record is the anchor, or a header. It is not changed once it is there, so that copies of a chain, and who goes over it, may keep it.
type record struct {
	point  api.Point
	header api.Header
	// jumps are the places of the ancestors that are 1, 2, 4, 8, .. steps away, as far as there are some.
	jumps []int
}

// parent is the place of a header's parent.
func (r record) parent() int { return r.jumps[0] }

// store is the anchor and the headers, in the order in which they were added, and the place of each name.
type store struct {
	records []record
	places  map[api.Hash]int
}

// begin is a store of an anchor alone.
func begin(anchor api.Point) *store {
	s := &store{places: map[api.Hash]int{}}
	s.put(record{point: anchor})
	return s
}

func (s *store) put(r record) {
	s.places[r.point.Name] = len(s.records)
	s.records = append(s.records, r)
}

func (s *store) headers() []record { return s.records[anchorPlace+1:] }

func (s *store) epoch(place int) uint64 { return s.records[place].point.Epoch }

func (s *store) parent(place int) int { return s.records[place].parent() }

// jumpsOver is the jumps of a parent's child: each is as far again from where the one ahead of it leads.
func (s *store) jumpsOver(parent int) []int {
	jumps := []int{parent}
	for i := 0; i < len(s.records[jumps[i]].jumps); i++ {
		jumps = append(jumps, s.records[jumps[i]].jumps[i])
	}
	return jumps
}

// at is the place of what stands at an epoch that is not below the anchor's.
func (s *store) at(place int, epoch uint64) int {
climb:
	for s.epoch(place) > epoch {
		for _, far := range slices.Backward(s.records[place].jumps) {
			if s.epoch(far) > epoch {
				place = far
				continue climb
			}
		}
		// No jump leads to one that is above the epoch: the parent is the first that is not.
		return s.parent(place)
	}
	return place
}
