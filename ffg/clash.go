package ffg

import (
	"slices"

	"landmark/api"
	"landmark/chain"
)

// Clash are the first two that clash.
func Clash(c *chain.Chain, l ...api.Point) (api.Point, api.Point, bool) {
	known := knownOf(c, l)
	shared := sharedOf(c, known)
	first := slices.IndexFunc(known, func(p api.Point) bool {
		return len(shared) == 0 || compare(p, shared[len(shared)-1]) > 0
	})
	if first < 0 {
		return api.Point{}, api.Point{}, false
	}
	// Whom it clashes with stands behind it: all ahead of it clash with none.
	p, rest := known[first], known[first+1:]
	other := slices.IndexFunc(rest, func(q api.Point) bool { return areApart(c, p, q) })
	return p, rest[other], true
}

// knownOf are those points that a chain knows, by their places.
func knownOf(c *chain.Chain, l []api.Point) []api.Point {
	var known []api.Point
	for _, p := range l {
		if c.Knows(p) {
			known = append(known, p)
		}
	}
	return known
}

// areApart is whether of two known points neither lies on the other one's path.
func areApart(c *chain.Chain, p, q api.Point) bool {
	return !c.Under(p.Name, q.Name) && !c.Under(q.Name, p.Name)
}

// sharedOf are those known points that clash with none of them, sorted: they are the first ones of all, sorted. To hold each against each other one would take too long where there are thousands.
func sharedOf(c *chain.Chain, known []api.Point) []api.Point {
	sorted := slices.SortedFunc(slices.Values(known), compare)
	var shared []api.Point
	isForked := false
	for _, p := range sorted {
		for len(shared) > 0 && !c.Under(p.Name, shared[len(shared)-1].Name) {
			shared = shared[:len(shared)-1]
			isForked = true
		}
		// Behind a fork each one clashes with one of the two that were parted there.
		if !isForked {
			shared = append(shared, p)
		}
	}
	return shared
}
