package weak

import (
	"math"
	"math/big"
	"math/rand/v2"
	"testing"

	"landmark/api"
)

// most is the greatest number there is.
const most = math.MaxUint64

func whole(n uint64) *big.Int { return new(big.Int).SetUint64(n) }

// times is a product that goes round nowhere.
func times(a, b *big.Int) *big.Int { return new(big.Int).Mul(a, b) }

func twice(n uint64) *big.Int { return times(big.NewInt(2), whole(n)) }

// windowOf is the chapter's words in numbers that go round nowhere.
func windowOf(decay, churn uint64) (uint64, api.Errno) {
	if churn == 0 {
		return 0, api.ErrArg
	}
	return new(big.Int).Quo(whole(decay), twice(churn)).Uint64(), api.OK
}

// endOf is the chapter's words in numbers that go round nowhere.
func endOf(anchor, window uint64) *big.Int {
	sum, last := new(big.Int).Add(whole(anchor), whole(window)), whole(most)
	if sum.Cmp(last) > 0 {
		return last
	}
	return sum
}

// holdWindow wants of Window what the chapter says, and what follows of it.
func holdWindow(t *testing.T, decay, churn uint64) {
	t.Helper()
	got, e := Window(decay, churn)
	if want, wantE := windowOf(decay, churn); got != want || e != wantE {
		t.Fatalf("Window of %d and %d: %d, %v; want %d, %v", decay, churn, got, e, want, wantE)
	}
	if churn == 0 {
		return
	}
	often := times(twice(churn), whole(got))
	if often.Cmp(whole(decay)) > 0 || often.Add(often, twice(churn)).Cmp(whole(decay)) <= 0 {
		t.Fatalf("Window of %d and %d: %d times twice the churn is not what is at most the decay", decay, churn, got)
	}
}

// holdTimes wants of all that is asked of the end what the chapter says.
func holdTimes(t *testing.T, anchor, window, epoch uint64) {
	t.Helper()
	last := endOf(anchor, window)
	isStale := whole(epoch).Cmp(last) > 0
	var left uint64
	if !isStale {
		left = new(big.Int).Sub(last, whole(epoch)).Uint64()
	}
	want := answers{last.Uint64(), isStale, !isStale && epoch >= anchor, left}
	if got := answersOf(anchor, window, epoch); got != want {
		t.Fatalf("anchor %d, window %d, epoch %d: %v; want %v", anchor, window, epoch, got, want)
	}
}

// answers is what End, Stale, Within and Left tell.
type answers struct {
	end             uint64
	isStale, within bool
	left            uint64
}

func answersOf(anchor, window, epoch uint64) answers {
	return answers{End(anchor, window), Stale(anchor, window, epoch), Within(anchor, window, epoch), Left(anchor, window, epoch)}
}

// around are numbers at, below and above some, as far as there are any.
func around(off uint64, mids ...uint64) []uint64 {
	var l []uint64
	for _, mid := range mids {
		for n := mid - min(mid, off); ; n++ {
			l = append(l, n)
			if n == most || n == mid+off {
				break
			}
		}
	}
	return l
}

// someNumber is one by chance: of any size, and now and then near where numbers end, or halve.
func someNumber(source *rand.Rand) uint64 {
	n := source.Uint64() >> source.IntN(64)
	return []uint64{n, n, n, source.Uint64N(4), most - source.Uint64N(4), 1<<63 + source.Uint64N(5) - 2}[source.IntN(6)]
}
