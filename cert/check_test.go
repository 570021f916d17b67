package cert

import (
	"math"
	"math/big"
	"slices"
	"testing"

	"landmark/api"
)

// P15.1: what is right: each choice of members that is a quorum; each other one is none.
func TestCheck(t *testing.T) {
	l := ordinary()
	for _, r := range []api.Register{register(1, 1, 1, 1), register(1, 2, 3, 4), register(9, 1, 1, 1), standing(register(2, 1, 2, 1), 3, api.MemberGoing), register(2, 1)} {
		for _, numbers := range subsets(len(r.Members)) {
			want := api.OK
			switch {
			case len(numbers) == 0:
				want = api.ErrArg
			case !isQuorum(r, numbers...):
				want = api.ErrNone
			}
			holdCheck(t, r, cert(l, numbers...), want, "a choice of members")
		}
	}
	holdCheck(t, register(equals(64, 1)...), cert(l, numbersTo(64)...), api.OK, "all 64")
	holdCheck(t, register(equals(64, 1)...), cert(l, numbersTo(64)[21:]...), api.OK, "43 of 64")
	holdCheck(t, register(equals(64, 1)...), cert(l, numbersTo(64)[22:]...), api.ErrNone, "42 of 64")
}

// flawed is a certificate of 1 to 4 in which some votes, told by a letter for each, lack something: 's' is not signed, 'i' and 'b' are of numbers that are not active, signed or not, 'r' is right.
func flawed(l api.Link, kinds string) api.Cert {
	c := api.Cert{Link: l}
	for i, kind := range kinds {
		v := vote(2*i+2, l)
		switch kind {
		case 'i', 'b':
			v = vote(2*i+1, l)
		}
		switch kind {
		case 's', 'b':
			v.Sig[40] ^= 1
		}
		c.Votes = append(c.Votes, v)
	}
	return c
}

// halfIdle are two registers in which each even number is of MemberActive, each odd one is not; of the second one nobody else but 9 is any quorum.
func halfIdle() (quorum, none api.Register) {
	quorum = register(equals(9, 1)...)
	for n, s := range map[int]api.MemberStatus{1: api.MemberGone, 3: api.MemberComing, 5: api.MemberGone, 7: api.MemberComing, 9: api.MemberGone} {
		quorum = standing(quorum, n, s)
	}
	none = standing(quorum, 9, api.MemberActive)
	none.Members[8].Stake = 1000
	return quorum, none
}

// P15.1: all certificates of four votes that each lack one thing, two, or none: the first vote's error is told, and ErrNone behind all.
func TestCheckFirstVote(t *testing.T) {
	l := ordinary()
	quorum, none := halfIdle()
	kinds := "rsib"
	for code := range 256 {
		var text []byte
		for i := range 4 {
			text = append(text, kinds[code>>(2*i)&3])
		}
		c := flawed(l, string(text))
		wants := map[byte]api.Errno{'s': api.ErrSig, 'i': api.ErrIdle, 'b': api.ErrIdle}
		place := slices.IndexFunc(text, func(kind byte) bool { return kind != 'r' })
		if place < 0 {
			holdCheck(t, quorum, c, api.OK, string(text))
			holdCheck(t, none, c, api.ErrNone, string(text))
			continue
		}
		holdCheck(t, quorum, c, wants[text[place]], string(text))
		holdCheck(t, none, c, wants[text[place]], string(text)+", and no quorum")
	}
}

// P15.1: a wrong vote makes a certificate wrong also where the others are a quorum.
func TestCheckWrongVote(t *testing.T) {
	r, l := register(1, 1, 1, 100), ordinary()
	for i := range 3 {
		for name, sig := range wrongSigs(i+1, l) {
			c := cert(l, 1, 2, 3, 4)
			c.Votes[i].Sig = sig
			holdCheck(t, r, c, api.ErrSig, name)
			c.Votes = c.Votes[:3]
			holdCheck(t, r, c, api.ErrSig, name+", and no quorum")
		}
	}
	for _, numbers := range [][]int{{1, 4, 5}, {4, 5}, {4, 64}, {5}, {64}} {
		holdCheck(t, r, cert(l, numbers...), api.ErrIdle, "who is no member")
	}
	holdCheck(t, mixed(), cert(l, 1, 2, 3), api.OK, "who is active")
	holdCheck(t, mixed(), cert(l, 1, 2, 3, 6), api.OK, "who is active")
	holdCheck(t, mixed(), cert(l, 1, 2, 3, 4), api.ErrIdle, "who is gone")
	holdCheck(t, mixed(), cert(l, 1, 2, 3, 5), api.ErrIdle, "who comes")
	holdCheck(t, mixed(), cert(l, 4, 5), api.ErrIdle, "who is gone, and who comes")
	holdCheck(t, mixed(), cert(l, 1, 2, 6), api.OK, "800 of 1000")
	holdCheck(t, mixed(), cert(l, 1, 3), api.ErrNone, "500 of 1000")
}

// P15.1: what may not be told, beside all other errors, and beside none.
func TestCheckNotTold(t *testing.T) {
	l := ordinary()
	quorum, none := halfIdle()
	for _, kinds := range []string{"rrrr", "srrr", "irrr", "rrrb", "s", "i"} {
		for name, change := range map[string]func(c *api.Cert){
			"no vote":            func(c *api.Cert) { c.Votes = nil },
			"the last one ahead": func(c *api.Cert) { c.Votes = append([]api.Vote{vote(8, l)}, c.Votes...) },
			"one twice":          func(c *api.Cert) { c.Votes = append(c.Votes, c.Votes[len(c.Votes)-1]) },
			"nobody's":           func(c *api.Cert) { c.Votes = append(c.Votes, signedBy(1, bare(65, l))) },
			"another link":       func(c *api.Cert) { c.Votes = append(c.Votes, vote(9, wrongLinks()[0])) },
			"of another link":    func(c *api.Cert) { c.Link.Source.Epoch-- },
			"a point":            func(c *api.Cert) { c.Link.Target.Epoch = math.MaxUint64 },
			"a signature":        func(c *api.Cert) { c.Votes[len(c.Votes)-1].Sig = make([]byte, 4097) },
		} {
			c := flawed(l, kinds)
			change(&c)
			holdCheck(t, quorum, c, api.ErrArg, name+", and "+kinds)
			holdCheck(t, none, c, api.ErrArg, name+", "+kinds+" and no quorum")
			holdCheck(t, api.Register{}, c, api.ErrArg, name+", "+kinds+" and no register")
		}
		holdCheck(t, changed(quorum, func(r *api.Register) { r.Churn = 0 }), flawed(l, kinds), api.ErrArg, "a register that may not be, and "+kinds)
	}
}

// P15.2: stakes of those who are active, whatever their signatures are; of what may not be none.
func TestStake(t *testing.T) {
	l := ordinary()
	for _, r := range []api.Register{register(1, 2, 4, 8, 16), mixed(), standing(standing(register(1, 2, 4, 8, 16), 2, api.MemberGoing), 4, api.MemberGone), standing(register(1, 2), 1, api.MemberComing)} {
		for _, numbers := range subsets(7) {
			want := stakeOf(r, numbers...).Uint64()
			for _, c := range []api.Cert{cert(l, numbers...), unsigned(l, numbers...)} {
				given := cloneCert(c)
				if s := Stake(r, c); s != want {
					t.Errorf("of %v: %d; want %d", numbers, s, want)
				}
				if !same(c, given) {
					t.Error("what was handed in was changed")
				}
			}
		}
	}
	r := register(1, 2, 4)
	for name, c := range map[string]api.Cert{"none": {}, "no vote": {Link: l}, "one twice": cert(l, 1, 2, 2), "falling": cert(l, 2, 1, 3), "nobody's": cert(l, 1, 2, 65), "other links": {Link: l, Votes: append(votes(l, 1), vote(2, api.Link{}))}} {
		if s := Stake(r, c); s != 0 {
			t.Errorf("%s: %d", name, s)
		}
	}
	if s := Stake(api.Register{}, cert(l, 1)); s != 0 {
		t.Error(s)
	}
}

// P15.2: great stakes.
func TestStakeGreat(t *testing.T) {
	l := ordinary()
	r := register(equals(64, 1<<32)...)
	for n := 1; n <= 64; n++ {
		if s := Stake(r, unsigned(l, numbersTo(n)...)); s != uint64(n)<<32 {
			t.Errorf("of %d: %d", n, s)
		}
	}
	r.Members[63].Stake = 1<<32 - 1
	if s := Stake(r, unsigned(l, numbersTo(64)...)); s != 1<<38-1 {
		t.Error(s)
	}
	if s := Stake(standing(r, 1, api.MemberGone), unsigned(l, numbersTo(64)...)); s != 1<<38-1<<32-1 {
		t.Error(s)
	}
}

// holdQuorum holds Quorum against great integers.
func holdQuorum(t *testing.T, stake, total uint64) bool {
	t.Helper()
	want := isEnough(new(big.Int).SetUint64(stake), new(big.Int).SetUint64(total))
	if Quorum(stake, total) != want {
		t.Errorf("Quorum(%d, %d): %v", stake, total, !want)
	}
	return want
}

// P15.2: small numbers, all pairs; numbers about each third of 2^64, about each power of two, and the greatest ones.
func TestQuorum(t *testing.T) {
	if !Quorum(0, 0) || Quorum(0, 1) || !Quorum(1, 0) || !Quorum(1, 1) || Quorum(1, 2) || !Quorum(2, 3) || Quorum(66, 100) || !Quorum(67, 100) {
		t.Error("few")
	}
	if !Quorum(math.MaxUint64, math.MaxUint64) || Quorum(0, math.MaxUint64) || !Quorum(math.MaxUint64, 0) || Quorum(math.MaxUint64/3*2-1, math.MaxUint64) || !Quorum(math.MaxUint64/3*2, math.MaxUint64) {
		t.Error("great")
	}
	count := map[bool]int{}
	var numbers []uint64
	for n := range uint64(60) {
		numbers = append(numbers, n)
	}
	for _, n := range []uint64{1 << 31, 1 << 32, 1 << 33, 1 << 38, 1 << 62, 1 << 63, 0, math.MaxUint64 / 3, math.MaxUint64 / 3 * 2, math.MaxUint64 / 2, math.MaxUint64 / 6, math.MaxUint64 / 9 * 2, math.MaxUint64 / 9 * 4, math.MaxUint64 / 4 * 3} {
		for d := range uint64(9) {
			numbers = append(numbers, n+d-4)
		}
	}
	for _, stake := range numbers {
		for _, total := range numbers {
			count[holdQuorum(t, stake, total)]++
		}
		// About the stake's own edge.
		for d := range uint64(7) {
			count[holdQuorum(t, stake, stake/2*3+d-3)]++
		}
	}
	if count[true] < 5000 || count[false] < 5000 {
		t.Error(count)
	}
}

// P15.2: a vote that is signed by an active one: each member, each status, links at the edges.
func TestSigned(t *testing.T) {
	l := ordinary()
	r := mixed()
	for n, want := range map[int]api.Errno{1: api.OK, 2: api.OK, 3: api.OK, 4: api.ErrIdle, 5: api.ErrIdle, 6: api.OK, 7: api.ErrIdle, 8: api.ErrIdle, 64: api.ErrIdle, 0: api.ErrArg, 65: api.ErrArg, -1: api.ErrArg, 257: api.ErrArg} {
		v := bare(n, l)
		v.Sig = sigBy(max(1, n%8), 6, textOf(v))
		holdSigned(t, r, v, want, "a member")
	}
	for _, epochs := range [][2]uint64{{0, 0}, {0, 1}, {9, 4}, {mostEpoch, mostEpoch}, {mostEpoch - 1, mostEpoch}, {1<<32 + 1, 1<<32 + 31}} {
		holdSigned(t, r, vote(2, api.Link{Source: at(epochs[0]), Target: at(epochs[1])}), api.OK, "a link")
	}
	one := register(1)
	holdSigned(t, one, vote(1, l), api.OK, "one alone")
	holdSigned(t, one, vote(2, l), api.ErrIdle, "another one")
	holdSigned(t, register(equals(64, 1)...), vote(64, l), api.OK, "the last one")
	// A key stands by its number: moved to another one, it signs by that.
	r.Members[0].Key, r.Members[1].Key = r.Members[1].Key, r.Members[0].Key
	holdSigned(t, r, vote(1, l), api.ErrSig, "another one's key")
	holdSigned(t, r, signedBy(2, bare(1, l)), api.OK, "the number's key")
}

// P15.2: each reason for an error alone, and each two at once.
func TestSignedErrors(t *testing.T) {
	r, l := mixed(), ordinary()
	for _, n := range []int{1, 4, 5, 7} {
		for name, v := range wrongVotes(n, l) {
			holdSigned(t, r, v, api.ErrArg, name)
			holdSigned(t, api.Register{}, v, api.ErrArg, name+", and no register")
			if len(v.Sig) <= 4096 {
				holdSigned(t, r, changed(v, func(v *api.Vote) { v.Sig = nil }), api.ErrArg, name+", and not signed")
			}
		}
	}
	for name, sig := range wrongSigs(1, l) {
		holdSigned(t, r, changed(bare(1, l), func(v *api.Vote) { v.Sig = sig }), api.ErrSig, name)
		for _, n := range []int{4, 5, 7, 64} {
			holdSigned(t, r, changed(bare(n, l), func(v *api.Vote) { v.Sig = sig }), api.ErrIdle, name+", and not active")
		}
	}
	for name, wrong := range wrongRegisters() {
		holdSigned(t, wrong, vote(1, l), api.ErrArg, name)
		holdSigned(t, wrong, vote(64, l), api.ErrArg, name+", and not active")
		holdSigned(t, wrong, bare(1, l), api.ErrArg, name+", and not signed")
	}
}
