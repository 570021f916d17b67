package ffg

import (
	"math"
	"math/big"
	"math/rand/v2"
	"testing"
)

// strong is the chapter's words in numbers that go round nowhere.
func strong(weight, total uint64) bool {
	w, t := new(big.Int).SetUint64(weight), new(big.Int).SetUint64(total)
	three, two := new(big.Int).Mul(w, big.NewInt(3)), new(big.Int).Mul(t, big.NewInt(2))
	return w.Sign() > 0 && three.Cmp(two) >= 0
}

func holdStrong(t *testing.T, weight, total uint64) {
	t.Helper()
	if is := Strong(weight, total); is != strong(weight, total) {
		t.Fatalf("Strong of %d of %d: %v", weight, total, is)
	}
}

// P13.1: weights of which it is plain.
func TestStrongPlain(t *testing.T) {
	for _, given := range []struct {
		weight, total uint64
		want          bool
	}{
		{0, 0, false}, {1, 0, true}, {2, 0, true}, {math.MaxUint64, 0, true},
		{0, 1, false}, {1, 1, true}, {0, 2, false}, {1, 2, false}, {2, 2, true},
		{1, 3, false}, {2, 3, true}, {3, 3, true}, {2, 4, false}, {3, 4, true}, {3, 5, false}, {4, 5, true}, {3, 6, false}, {4, 6, true},
		{0, math.MaxUint64, false}, {1, math.MaxUint64, false}, {math.MaxUint64, math.MaxUint64, true}, {math.MaxUint64, 1, true},
		{12297829382473034410, math.MaxUint64, true}, {12297829382473034409, math.MaxUint64, false},
		{1 << 63, 3 << 62, true}, {1<<63 - 1, 3 << 62, false}, {1 << 63, 3<<62 + 1, false},
		{6148914691236517205, 1 << 63, false}, {6148914691236517206, 1 << 63, true}, {6148914691236517205, 1<<63 - 1, true},
		{api64of2to32, api64of2to32, true}, {api64of2to32, api64of2to32 * 3 / 2, true}, {api64of2to32 - 1, api64of2to32 * 3 / 2, false},
	} {
		if is := Strong(given.weight, given.total); is != given.want {
			t.Error(given, is)
		}
		holdStrong(t, given.weight, given.total)
	}
}

// api64of2to32 is what MaxValidators of MaxStake weigh.
const api64of2to32 = 64 << 32

// P13.1: all small weights of all small totals, also weights above them.
func TestStrongSmall(t *testing.T) {
	for total := range uint64(100) {
		for weight := range uint64(120) {
			holdStrong(t, weight, total)
		}
	}
}

// P13.1: weights at, below and above two thirds, for totals of each rest by three, small ones and great ones.
func TestStrongThirds(t *testing.T) {
	for shift := range 62 {
		for rest := range uint64(3) {
			total := 3<<shift + rest
			least := 2 << shift
			for off := range uint64(9) {
				holdStrong(t, uint64(least)+off-4, total)
			}
		}
	}
	for _, third := range []uint64{1, 2, 100, 1 << 32, 1<<61 - 1, 1 << 61, 6148914691236517204, 6148914691236517205} {
		for rest := range uint64(3) {
			total, least := 3*third+rest, 2*third+rest
			if total < third {
				continue
			}
			// Of a rest of 1, and of 2, two thirds are 2/3, and 4/3, more than the thirds' own.
			if !Strong(least, total) || Strong(least-1, total) {
				t.Errorf("around two thirds of %d", total)
			}
			holdStrong(t, least+1, total)
		}
	}
}

// P13.1: numbers for which three times, or twice, that goes round at 2^64, each with each.
func TestStrongGreat(t *testing.T) {
	var l []uint64
	for _, mid := range []uint64{0, 1 << 31, 1 << 32, 1 << 61, 1 << 62, 3 << 61, 1 << 63, 3 << 62, 5 << 61, 6148914691236517205, 12297829382473034410, 4099276460824344803, 8198552921648689607, 9223372036854775807} {
		for off := range uint64(7) {
			l = append(l, mid+off-3)
		}
	}
	for _, weight := range l {
		for _, total := range l {
			holdStrong(t, weight, total)
		}
	}
}

// P13.1: weights of totals by chance, near two thirds, too; a weight that is strong stays so as it grows, or the total shrinks.
func TestWeightsByChance(t *testing.T) {
	source := rand.New(rand.NewPCG(13, 1))
	for range 20000 {
		weight, total := source.Uint64()>>source.IntN(64), source.Uint64()>>source.IntN(64)
		holdStrong(t, weight, total)
		near := total/3*2 + source.Uint64N(6) - 2
		holdStrong(t, near, total)
		if Strong(near, total) && (near < math.MaxUint64 && !Strong(near+1, total) || total > 0 && !Strong(near, total-1)) {
			t.Fatal("strong no more:", near, total)
		}
	}
}
