package clock

import (
	"math/rand/v2"
	"slices"
	"testing"
)

// P17.3: of none, of one, of many, with the greatest at each place, and more than once; the chapter's examples among them.
func TestGreatestPlain(t *testing.T) {
	if n, is := Greatest(); n != 0 || is {
		t.Error("of none:", n, is)
	}
	if n, is := Greatest(3, 8, 2); n != 8 || !is {
		t.Error("of 3, 8, 2:", n, is)
	}
	for _, given := range []struct {
		want uint64
		l    []uint64
	}{
		{0, []uint64{0}}, {0, []uint64{0, 0, 0}}, {1, []uint64{0, 1}}, {1, []uint64{1, 0}}, {7, []uint64{7}}, {7, []uint64{7, 7}},
		{9, []uint64{9, 1, 4}}, {9, []uint64{1, 9, 4}}, {9, []uint64{1, 4, 9}}, {9, []uint64{9, 4, 9, 1}}, {9, []uint64{4, 9, 9, 1}}, {9, []uint64{1, 9, 4, 9}},
		{most, []uint64{most}}, {most, []uint64{most, 0}}, {most, []uint64{0, most}}, {most, []uint64{most - 1, most, 1 << 63}},
		{1 << 63, []uint64{1 << 63, 1<<63 - 1}}, {1 << 63, []uint64{1<<63 - 1, 1 << 63, 0}}, {1<<63 - 1, []uint64{5, 1<<63 - 1, 1 << 62}},
		{1 << 32, []uint64{1<<32 - 1, 1 << 32, 7}},
	} {
		if n, is := Greatest(given.l...); n != given.want || !is {
			t.Errorf("of %v: %d, %v", given.l, n, is)
		}
	}
}

// P17.3: nil and empty lists, passed on, are none.
func TestGreatestOfNoList(t *testing.T) {
	for _, l := range [][]uint64{nil, {}, make([]uint64, 0, 4), edges()[:0], edges()[3:3]} {
		if n, is := Greatest(l...); n != 0 || is {
			t.Errorf("of %v: %d, %v", l, n, is)
		}
	}
}

// P17.3: a list that is passed on is not changed, nor what stands behind it in its memory; what becomes of it is nothing to the answer.
func TestGreatestChangesNothing(t *testing.T) {
	whole := []uint64{3, most, 1, 9, 9, 0, 4, most, 7}
	was := slices.Clone(whole)
	for from := range whole {
		for to := from + 1; to <= len(whole); to++ {
			n, is := Greatest(whole[from:to]...)
			if n != slices.Max(was[from:to]) || !is {
				t.Fatalf("of %v: %d, %v", was[from:to], n, is)
			}
			if !slices.Equal(whole, was) {
				t.Fatalf("%d to %d: the list is %v, and was %v", from, to, whole, was)
			}
		}
	}
	n, _ := Greatest(whole...)
	clear(whole)
	if n != most {
		t.Error(n)
	}
}

// P17.3: the greatest at each place of lists of each length up to some, alone and among others as great.
func TestGreatestAtEachPlace(t *testing.T) {
	for _, top := range []uint64{1, 9, 1 << 63, most} {
		for length := 1; length <= 20; length++ {
			for place := range length {
				for other := range length {
					l := make([]uint64, length)
					for i := range l {
						l[i] = uint64(i) * (top - 1) / 20
					}
					l[place], l[other] = top, top
					if n, is := Greatest(l...); n != top || !is {
						t.Fatalf("of %v: %d, %v", l, n, is)
					}
				}
			}
		}
	}
}

// P17.3: lists by chance: one of them, and none is above it. Of long ones, too.
func TestGreatestByChance(t *testing.T) {
	source := rand.New(rand.NewPCG(17, 3))
	for round := range 2000 {
		l := make([]uint64, 1+source.IntN(30))
		if round == 0 {
			l = make([]uint64, 300000)
		}
		for i := range l {
			l[i] = someReading(source)
		}
		if round%3 == 0 {
			for i := range l {
				l[i] >>= 2
			}
		}
		n, is := Greatest(l...)
		isAbove := slices.ContainsFunc(l, func(one uint64) bool { return one > n })
		if !is || isAbove || !slices.Contains(l, n) {
			t.Fatalf("%d readings: %d, %v", len(l), n, is)
		}
	}
}
