package registry

import (
	"fmt"
	"math/rand/v2"
	"testing"

	"landmark/api"
)

// P11.2: those who stand first come, and go, as long as their stakes, in all, are at most the churn times the epochs.
func TestTurn(t *testing.T) {
	hold(t, []step{
		// They just fit; they pass the bound by one; the first one does not fit.
		{10, "a1 c4 c6", 1, nil, "a1 a4 a6[] []", api.OK},
		{10, "a1 c4 c7", 1, nil, "a1 a4 c7[3] []", api.OK},
		{10, "a1 c10", 1, nil, "a1 a10[] []", api.OK},
		{10, "a1 c11", 1, nil, "a1 c11[2] []", api.OK},
		{10, "a1 g4 g6", 1, nil, "a1 x4 x6[] []", api.OK},
		{10, "a1 g4 g7", 1, nil, "a1 x4 g7[] [3]", api.OK},
		{10, "a1 g10", 1, nil, "a1 x10[] []", api.OK},
		{10, "a1 g11", 1, nil, "a1 g11[] [2]", api.OK},
		// One that does not fit is ahead of one that would.
		{10, "a1 c4 c7 c1", 1, nil, "a1 a4 c7 c1[3 4] []", api.OK},
		{10, "a1 c11 c1", 1, nil, "a1 c11 c1[2 3] []", api.OK},
		{10, "a1 g4 g7 g1", 1, nil, "a1 x4 g7 g1[] [3 4]", api.OK},
		{10, "a1 g11 g1", 1, nil, "a1 g11 g1[] [2 3]", api.OK},
		{10, "a1 c5 c5 c1", 1, nil, "a1 a5 a5 c1[4] []", api.OK},
		// Both lines at once, each by a sum of its own.
		{10, "a1 c10 g10", 1, nil, "a1 a10 x10[] []", api.OK},
		{10, "a1 c6 g6 c4 g4", 1, nil, "a1 a6 x6 a4 x4[] []", api.OK},
		{10, "a1 c11 g10", 1, nil, "a1 c11 x10[2] []", api.OK},
		{10, "a1 c10 g11", 1, nil, "a1 a10 g11[] [3]", api.OK},
		{10, "a1 g3 c8 c3 g8 g1", 1, nil, "a1 x3 a8 c3 g8 g1[4] [5 6]", api.OK},
		// So many epochs at once.
		{10, "a1 c10 c10 c1", 2, nil, "a1 a10 a10 c1[4] []", api.OK},
		{10, "a1 c19 g20", 2, nil, "a1 a19 x20[] []", api.OK},
		{10, "a1 c21 g21", 2, nil, "a1 c21 g21[2] [3]", api.OK},
		{10, "a1 c21 g21", 3, nil, "a1 a21 x21[] []", api.OK},
		{1, "a1 c3 g5", 3, nil, "a1 a3 g5[] [3]", api.OK},
		{1, "a1 c3 g5", 5, nil, "a1 a3 x5[] []", api.OK},
		// A mark does not hang on turning.
		{1, "a1! c1! g1!", 1, nil, "a1! a1! x1![] []", api.OK},
		// The operations come behind it: who goes, or comes, by this header waits for the next one.
		{10, "a1 a2", 9, ops(exitOf(2), depositOf(3, 2)), "a1 g2 c2[3] [2]", api.OK},
		{10, "a1 a2 c3 g4", 1, ops(slashOf(1)), "g1! a2 a3 x4[] [1]", api.OK},
	})
}

// P11.2: the lines are gone over in their own order, not by numbers.
func TestTurnInLine(t *testing.T) {
	for _, c := range []struct {
		coming, going []int
		want          string
	}{
		{[]int{4, 2, 3}, []int{7, 6, 5}, "a1 c5 c6 a7 g5 g6 x7[2 3] [6 5]"},
		{[]int{3, 4, 2}, []int{6, 7, 5}, "a1 c5 a6 c7 g5 x6 g7[4 2] [7 5]"},
		{[]int{2, 4, 3}, []int{5, 7, 6}, "a1 a5 c6 c7 x5 g6 g7[4 3] [7 6]"},
	} {
		r, e := next(t, lined(register(7, "a1 c5 c6 c7 g5 g6 g7"), c.coming, c.going), 1)
		if e != api.OK || told(r) != c.want {
			t.Errorf("%s, %v; want %s", told(r), e, c.want)
		}
	}
}

// P11.2: of lines that just fit so many epochs, all turn then, and all but the last one where it is an epoch, or a stake, less.
func TestTurnAtBounds(t *testing.T) {
	for churn := uint64(1); churn <= 6; churn++ {
		for count := uint64(1); count <= 6; count++ {
			stakes := " c1 g1"
			for range count - 1 {
				stakes += fmt.Sprintf(" c%d g%d", churn, churn)
			}
			r := register(churn, "a1"+stakes)
			for epochs := uint64(1); epochs <= count+1; epochs++ {
				got, e := next(t, r, epochs)
				// The one of stake 1 stands first, and takes the room of an epoch, where the churn is above 1.
				turned := min(count, (churn*epochs-1)/churn+1)
				if e != api.OK || uint64(len(got.Coming)) != count-turned || uint64(len(got.Going)) != count-turned {
					t.Errorf("%d, %d, %d epochs: %s, %v", churn, count, epochs, told(got), e)
				}
			}
		}
	}
}

// P11.2: with the greatest churns, and over the most epochs, all turn; also where the churn times the epochs goes round at 2^64, to 0 or to less than there waits.
func TestTurnGreat(t *testing.T) {
	const most = api.MaxStake
	members := fmt.Sprintf("a1 c%d c%d c%d g%d g%d g%d", most, most, most, most, most, most)
	all := fmt.Sprintf("a1 a%d a%d a%d x%d x%d x%d[] []", most, most, most, most, most, most)
	one := fmt.Sprintf("a1 a%d c%d c%d x%d g%d g%d[3 4] [6 7]", most, most, most, most, most, most)
	none := fmt.Sprintf("a1 c%d c%d c%d g%d g%d g%d[2 3 4] [5 6 7]", most, most, most, most, most, most)
	hold(t, []step{
		{most, members, 1, nil, one, api.OK},
		{most, members, 3, nil, all, api.OK},
		{most - 1, members, 1, nil, none, api.OK},
		{most - 1, members, 3, nil, fmt.Sprintf("a1 a%d a%d c%d x%d x%d g%d[4] [7]", most, most, most, most, most, most), api.OK},
		{1, members, most - 1, nil, none, api.OK},
		{1, members, most, nil, one, api.OK},
		{1, members, 3 * most, nil, all, api.OK},
		{1, members, 3*most - 1, nil, fmt.Sprintf("a1 a%d a%d c%d x%d x%d g%d[4] [7]", most, most, most, most, most, most), api.OK},
		// 2^62 and more: just that, 2^63, 2^64, 2^64 and 2^32, 2^64 and 1.
		{1 << 62, members, 1, nil, all, api.OK},
		{1 << 62, members, 2, nil, all, api.OK},
		{1 << 62, members, 3, nil, all, api.OK},
		{1 << 62, members, 4, nil, all, api.OK},
		{1 << 62, members, 1 << 61, nil, all, api.OK},
		{1 << 62, members, 1<<62 - 5, nil, all, api.OK},
		{1, members, 1<<62 - 5, nil, all, api.OK},
		{most, members, most, nil, all, api.OK},
		{most, members, most + 1, nil, all, api.OK},
		{641, members, 28778071877862015, nil, all, api.OK},
		{274177, members, 67280421310721, nil, all, api.OK},
	})
	// From epoch 0 to the greatest one.
	r, e := give(t, register(1<<62, members), api.Header{Epoch: api.MaxEpoch}, 0)
	if e != api.OK || told(r) != all {
		t.Error(told(r), e)
	}
}

// P11.2: a full register of the greatest stakes turns as its churn says, all at once or one by one.
func TestTurnFull(t *testing.T) {
	for _, s := range []api.MemberStatus{api.MemberComing, api.MemberGoing} {
		r := many(63, s)
		for i := range r.Members {
			r.Members[i].Stake = api.MaxStake
		}
		for _, c := range []struct{ churn, epochs, want uint64 }{
			{api.MaxStake, 1, 1}, {api.MaxStake, 62, 62}, {api.MaxStake, 63, 63}, {63 * api.MaxStake, 1, 63}, {63*api.MaxStake - 1, 1, 62},
			{1, 63 * api.MaxStake, 63}, {1, 63*api.MaxStake - 1, 62}, {1 << 62, 1, 63}, {1 << 62, 1<<62 - 5, 63},
		} {
			r.Churn = c.churn
			got, e := next(t, r, c.epochs)
			if left := uint64(len(got.Coming) + len(got.Going)); e != api.OK || left != 63-c.want {
				t.Errorf("%d, churn %d, %d epochs: %d left, %v", s, c.churn, c.epochs, left, e)
			}
		}
	}
}

// P11.2: no room is kept from header to header: what did not fit into one epoch does not fit into the next one.
func TestTurnKeepsNoRoom(t *testing.T) {
	r := register(10, "a1 c11 g11")
	for range 20 {
		got, e := next(t, r, 1)
		if e != api.OK || !same(got, r) {
			t.Fatal(told(got), e)
		}
	}
	if got, e := next(t, r, 2); e != api.OK || told(got) != "a1 a11 x11[] []" {
		t.Error(told(got), e)
	}
}

// P11.2: by chance, long lines of whatever order.
func TestTurnByChance(t *testing.T) {
	source := rand.New(rand.NewPCG(11, 3))
	for range 3000 {
		r := api.Register{Churn: 1 + source.Uint64N(100)}
		for i := range 64 {
			r.Members = append(r.Members, api.Member{Key: keyOf(i), Stake: 1 + source.Uint64N(30), Status: api.MemberStatus(1 + source.IntN(4))})
		}
		r.Members[source.IntN(64)].Status = api.MemberActive
		r = lineUp(r)
		shuffle(source, r.Coming)
		shuffle(source, r.Going)
		next(t, r, 1+source.Uint64N(6))
	}
}
