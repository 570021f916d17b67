package clock

import (
	"math/rand/v2"
	"slices"
	"testing"

	"landmark/api"
)

// P17.4, P0.4: the clock never goes back, whatever comes, and stands at the greatest of all that came, and what it was begun with.
func TestNeverBack(t *testing.T) {
	for seed := range uint64(40) {
		source := rand.New(rand.NewPCG(174, seed))
		// Some go to and fro near where the clock stands, some anywhere.
		next := func(uint64) uint64 { return someReading(source) }
		if seed%2 == 0 {
			next = func(at uint64) uint64 { return at + source.Uint64N(5) - min(at, 2) }
		}
		o := newPair(t, someReading(source)>>8)
		later, others := 0, 0
		for range 150 {
			ahead, taken := o.c.At(), o.c.Taken()
			o.take(next(ahead))
			o.hold()
			if o.c.At() < ahead {
				t.Fatalf("seed %d: from %d back to %d", seed, ahead, o.c.At())
			}
			if isLater := o.c.At() > ahead; isLater != (o.c.Taken() == taken+1) || !isLater && o.c.Taken() != taken {
				t.Fatalf("seed %d: from %d to %d, Taken from %d to %d", seed, ahead, o.c.At(), taken, o.c.Taken())
			}
			later, others = later+o.c.Taken()-taken, others+1-o.c.Taken()+taken
			if n, is := Greatest(o.m...); n != o.c.At() || !is {
				t.Fatalf("seed %d: the greatest is %d, the clock stands at %d", seed, n, o.c.At())
			}
		}
		if later == 0 || others == 0 {
			t.Errorf("seed %d: %d readings later, %d not", seed, later, others)
		}
	}
}

// inOrders does something with each order of the readings.
func inOrders(ahead, left []uint64, do func([]uint64)) {
	if len(left) == 0 {
		do(ahead)
	}
	for i := range left {
		inOrders(append(slices.Clone(ahead), left[i]), slices.Delete(slices.Clone(left), i, i+1), do)
	}
}

// P17.4: in each order of a handful of readings, and from each beginning, it stands at the greatest at last, and is the same as each other one.
func TestAllOrders(t *testing.T) {
	count := 0
	for _, readings := range [][]uint64{{3, 9, 9, 1, 7}, {0, 1, 2, 3, 4}, {most, 0, 1 << 63, 1<<63 - 1, 5}, {1 << 32, 1, 1<<32 + 1, 2, 1<<32 - 1}} {
		for _, at := range []uint64{0, 4, 8, 1 << 33, 1 << 63, most} {
			want, _ := Greatest(append(slices.Clone(readings), at)...)
			inOrders(nil, readings, func(l []uint64) {
				count++
				o := newPair(t, at)
				for _, reading := range l {
					o.take(reading)
					o.hold()
				}
				if o.c.At() != want || !isSame(t, o.c, New(want)) {
					t.Fatalf("at %d, behind %v: %d; want %d", at, l, o.c.At(), want)
				}
			})
		}
	}
	if count != 4*6*120 {
		t.Error(count)
	}
}

// P17.4: the same readings by chance, in other orders, and begun with another one of them.
func TestOrders(t *testing.T) {
	source := rand.New(rand.NewPCG(174, 99))
	for range 40 {
		l := make([]uint64, 2+source.IntN(40))
		for i := range l {
			l[i] = someReading(source) >> 1
		}
		want := slices.Max(l)
		for range 10 {
			source.Shuffle(len(l), func(i, j int) { l[i], l[j] = l[j], l[i] })
			c := New(l[0])
			for _, reading := range l[1:] {
				if _, e := c.Take(reading); e != api.OK {
					t.Fatal(e)
				}
			}
			if c.At() != want || c.Taken() > len(l)-1 || !isSame(t, c, New(want)) {
				t.Fatalf("%v: %d; want %d", l, c.At(), want)
			}
			if c.Asks(want) || !c.Asks(want+1) {
				t.Fatalf("%v: behind all of them Asks says another thing", l)
			}
		}
	}
}
