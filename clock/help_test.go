package clock

import (
	"math"
	"math/rand/v2"
	"slices"
	"testing"

	"landmark/api"
)

// most is the greatest reading there is.
const most = math.MaxUint64

// edges are readings at which numbers end, halve, or change their signs.
func edges() []uint64 {
	return []uint64{0, 1, 2, 5, 1<<31 - 1, 1 << 31, 1<<32 - 1, 1 << 32, 1<<62 - 1, 1 << 62, 1<<63 - 1, 1 << 63, 1<<63 + 1, most - 1, most}
}

// model is the chapter's words written anew: what the clock was begun with, and all that it took, one behind the other.
type model []uint64

// at is the last one when all are sorted.
func (m model) at() uint64 {
	l := slices.Clone(m)
	slices.Sort(l)
	return l[len(l)-1]
}

// taken is how many of those that came behind the first one were above each one ahead of them.
func (m model) taken() int {
	count := 0
	for i := 1; i < len(m); i++ {
		isLater := true
		for _, ahead := range m[:i] {
			isLater = isLater && ahead < m[i]
		}
		if isLater {
			count++
		}
	}
	return count
}

// pair is a clock, and the model that it is held against.
type pair struct {
	t *testing.T
	c *Clock
	m model
}

func newPair(t *testing.T, at uint64) *pair {
	t.Helper()
	c := New(at)
	if c == nil {
		t.Fatalf("New of %d: nil", at)
	}
	return &pair{t, c, model{at}}
}

// take gives a reading to both, and wants both to answer the same, as Asks did ahead of it.
func (o *pair) take(reading uint64) {
	o.t.Helper()
	ahead := o.m.taken()
	o.m = append(slices.Clone(o.m), reading)
	want := o.m.taken() > ahead
	if is := o.c.Asks(reading); is != want {
		o.t.Fatalf("%v: Asks: %v; want %v", o.m, is, want)
	}
	if is, e := o.c.Take(reading); is != want || e != api.OK {
		o.t.Fatalf("%v: Take: %v, %v; want %v", o.m, is, e, want)
	}
}

// hold wants the looks to answer what the model does.
func (o *pair) hold() {
	o.t.Helper()
	if at, taken := o.c.At(), o.c.Taken(); at != o.m.at() || taken != o.m.taken() {
		o.t.Fatalf("%v: At %d, Taken %d; want %d, %d", o.m, at, taken, o.m.at(), o.m.taken())
	}
}

// copied is a copy, and a model of its own.
func (o *pair) copied() *pair {
	o.t.Helper()
	c := o.c.Copy()
	if c == nil || c == o.c {
		o.t.Fatalf("%v: Copy is none of its own", o.m)
	}
	return &pair{o.t, c, slices.Clone(o.m)}
}

// around are readings at, below and above one, as far as there are any.
func around(mid uint64) []uint64 {
	l := []uint64{mid}
	if mid > 0 {
		l = append(l, mid-1)
	}
	if mid < most {
		l = append(l, mid+1)
	}
	return l
}

// someReading is one by chance: of any size, and now and then near where numbers end, or halve.
func someReading(source *rand.Rand) uint64 {
	n := source.Uint64() >> source.IntN(64)
	return []uint64{n, n, source.Uint64N(8), most - source.Uint64N(4), 1<<63 + source.Uint64N(5) - 2}[source.IntN(5)]
}

// isSame asks Same from both sides, and wants both to answer the same.
func isSame(t *testing.T, a, b *Clock) bool {
	t.Helper()
	is := a.Same(b)
	if b.Same(a) != is {
		t.Fatalf("Same: %v, and %v the other way round", is, !is)
	}
	return is
}
