package chain

import (
	"math/rand/v2"
	"slices"
	"testing"

	"landmark/api"
)

// Each header's jumps lead to the ancestors 1, 2, 4, 8, .. steps away, as far as there are some, and to no others.
func TestJumps(t *testing.T) {
	source := rand.New(rand.NewPCG(10, 7))
	for _, parent := range []func(i int) int{
		func(i int) int { return i },
		func(i int) int { return 0 },
		func(i int) int { return max(0, i-source.IntN(4)) },
	} {
		p := filled(t, 600, parent)
		for place, e := range p.m {
			path, _ := p.c.Path(e.point.Name)
			var want []api.Point
			for steps := 1; steps < len(path); steps *= 2 {
				want = append(want, path[len(path)-1-steps])
			}
			var got []api.Point
			for _, far := range p.c.records[place].jumps {
				got = append(got, p.c.records[far].point)
			}
			if !slices.Equal(got, want) {
				t.Fatalf("the jumps of %d: %v; want %v", place, got, want)
			}
		}
	}
}
