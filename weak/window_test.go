package weak

import (
	"math/rand/v2"
	"testing"

	"landmark/api"
)

// P16.1: windows of which it is plain, the chapter's examples among them.
func TestWindowPlain(t *testing.T) {
	for _, given := range []struct{ decay, churn, want uint64 }{
		{100, 10, 5}, {9, 5, 0}, {0, 1, 0}, {1, 1, 0}, {2, 1, 1}, {3, 1, 1}, {4, 1, 2}, {0, 7, 0}, {13, 7, 0}, {14, 7, 1}, {27, 7, 1}, {28, 7, 2},
		{most, 1, 1<<63 - 1}, {most - 1, 1, 1<<63 - 1}, {most - 2, 1, 1<<63 - 2}, {most, 2, 1<<62 - 1}, {most, 3, 3074457345618258602},
		{1 << 63, 1 << 62, 1}, {1<<63 - 1, 1 << 62, 0}, {most, 1 << 62, 1}, {most, 1<<62 - 1, 2},
		{64 << 32, 1, 32 << 32}, {64 << 32, 1 << 32, 32},
	} {
		if got, e := Window(given.decay, given.churn); got != given.want || e != api.OK {
			t.Errorf("Window of %d and %d: %d, %v; want %d", given.decay, given.churn, got, e, given.want)
		}
		holdWindow(t, given.decay, given.churn)
	}
}

// P16.1: a churn of 0 has no window, whatever the decay.
func TestWindowOfNoChurn(t *testing.T) {
	for _, decay := range []uint64{0, 1, 2, 9, 100, 1 << 32, 1<<63 - 1, 1 << 63, most - 1, most} {
		if got, e := Window(decay, 0); got != 0 || e != api.ErrArg {
			t.Errorf("Window of %d and 0: %d, %v", decay, got, e)
		}
	}
}

// P16.1: twice the churn, and twice that, at, below and above the decay.
func TestWindowEdges(t *testing.T) {
	for _, churn := range []uint64{1, 2, 3, 5, 10, 1000, 1<<31 - 1, 1 << 31, 1 << 32, 1<<32 + 1, 1<<61 - 1, 1 << 61, 1<<62 - 1} {
		once := 2 * churn
		// Twice twice the last churn is most - 3.
		for _, given := range []struct{ decay, want uint64 }{
			{0, 0}, {once - 1, 0}, {once, 1}, {once + 1, 1}, {2*once - 1, 1}, {2 * once, 2}, {2*once + 1, 2},
		} {
			if got, e := Window(given.decay, churn); got != given.want || e != api.OK {
				t.Errorf("Window of %d and %d: %d, %v; want %d", given.decay, churn, got, e, given.want)
			}
			holdWindow(t, given.decay, churn)
		}
	}
}

// P16.1: churns that twice are as great as a number may be, or greater: no decay is twice those that are.
func TestWindowOfGreatChurns(t *testing.T) {
	for _, churn := range []uint64{1<<63 - 1, 1 << 63, 1<<63 + 1, most} {
		for _, decay := range []uint64{0, 1, 1 << 63, most - 2, most - 1, most} {
			want := uint64(0)
			if churn == 1<<63-1 && decay >= most-1 {
				want = 1
			}
			if got, e := Window(decay, churn); got != want || e != api.OK {
				t.Errorf("Window of %d and %d: %d, %v; want %d", decay, churn, got, e, want)
			}
			holdWindow(t, decay, churn)
		}
	}
}

// P16.1, P16.3: all small decays of all small churns, and great ones, each with each.
func TestWindowGrid(t *testing.T) {
	for decay := range uint64(130) {
		for churn := range uint64(70) {
			holdWindow(t, decay, churn)
		}
	}
	l := around(3, 0, 1<<31, 1<<32, 64<<32, 1<<61, 1<<62, 3<<61, 1<<63, 3<<62, 6148914691236517205, 12297829382473034410, most)
	for _, decay := range l {
		for _, churn := range l {
			holdWindow(t, decay, churn)
		}
	}
}

// P16.1, P16.3: decays and churns by chance, and decays near so many times twice the churn.
func TestWindowByChance(t *testing.T) {
	source := rand.New(rand.NewPCG(16, 1))
	for range 20000 {
		decay, churn := someNumber(source), someNumber(source)
		holdWindow(t, decay, churn)
		// Twice such a churn is no more than half of all numbers.
		churn = 1 + churn>>2
		often := source.Uint64N(1 + most/(2*churn))
		for _, near := range around(1, often*2*churn) {
			holdWindow(t, near, churn)
		}
	}
}

// P16.3: windows of one decay, and of one churn, beside each other.
func TestWindowOfMoreDecayAndLessChurn(t *testing.T) {
	source := rand.New(rand.NewPCG(16, 2))
	pairs := 0
	hold := func(decay, churn, lesserDecay, greaterChurn uint64) {
		t.Helper()
		if churn == 0 || lesserDecay > decay || greaterChurn < churn {
			return
		}
		pairs++
		got, e := Window(decay, churn)
		if e != api.OK {
			t.Fatalf("Window of %d and %d: %v", decay, churn, e)
		}
		if least, e := Window(lesserDecay, churn); least > got || e != api.OK {
			t.Fatalf("churn %d: decay %d has %d, decay %d has %d, %v", churn, decay, got, lesserDecay, least, e)
		}
		if least, e := Window(decay, greaterChurn); least > got || e != api.OK {
			t.Fatalf("decay %d: churn %d has %d, churn %d has %d, %v", decay, churn, got, greaterChurn, least, e)
		}
	}
	for decay := range uint64(40) {
		for churn := range uint64(20) {
			for lesser := range decay + 1 {
				hold(decay, churn, lesser, churn+decay-lesser)
			}
		}
	}
	for range 20000 {
		hold(someNumber(source), someNumber(source), someNumber(source), someNumber(source))
	}
	for _, churn := range around(2, 1, 1<<62, 1<<63, most) {
		hold(most, churn, most-1, most)
		hold(1<<63, churn, 1<<63-1, churn|1)
	}
	if pairs < 5000 {
		t.Error(pairs)
	}
}
