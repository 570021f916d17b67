package cert

import (
	"math/big"
	"math/rand/v2"
	"testing"

	"landmark/api"
	"landmark/registry"
)

// holdCommon wants those whom two certificates that check have in common to hold at least a third of the total.
func holdCommon(t *testing.T, r api.Register, a, b api.Cert) {
	t.Helper()
	if Check(r, a) != api.OK || Check(r, b) != api.OK {
		t.Fatalf("Check: %v, %v", Check(r, a), Check(r, b))
	}
	in := map[int]int{}
	for _, v := range append(cloneVotes(a.Votes), b.Votes...) {
		in[v.Validator]++
	}
	var common []int
	for n, times := range in {
		if times == 2 {
			common = append(common, n)
		}
	}
	held := new(big.Int).Mul(stakeOf(r, common...), big.NewInt(3))
	if held.Cmp(new(big.Int).SetUint64(registry.Total(r))) < 0 {
		t.Errorf("votes of %v and of %v: in common %v", numbersOf(a.Votes), numbersOf(b.Votes), common)
	}
}

// P15.4, P0.3: two certificates of one register, of two links or one: all pairs of small registers' quorums.
func TestInCommon(t *testing.T) {
	l := ordinary()
	other := api.Link{Source: at(2), Target: api.Point{Epoch: 6, Name: allOf(3)}}
	edge := 0
	for _, r := range []api.Register{register(1, 1, 1), register(1, 1, 1, 1), register(1, 2, 3, 3), register(1, 1, 1, 3), register(5, 1), register(2, 2, 1, 1), standing(register(1, 1, 1, 1), 2, api.MemberGoing), register(1<<32, 1<<32, 1<<32)} {
		var all []api.Cert
		for _, numbers := range subsets(len(r.Members)) {
			for _, link := range []api.Link{l, other} {
				if c, e := Make(r, link, votes(link, numbers...)...); e == api.OK {
					all = append(all, c)
				}
			}
		}
		for _, a := range all {
			for _, b := range all {
				holdCommon(t, r, a, b)
				if 3*Stake(r, a) == 2*registry.Total(r) && 3*Stake(r, b) == 2*registry.Total(r) {
					edge++
				}
			}
		}
	}
	if edge < 20 {
		t.Error(edge)
	}
}

// P15.4: what Make tells checks, and its bytes are its own, in registers by chance; those of one register have a third in common.
func TestFollowsByChance(t *testing.T) {
	source := rand.New(rand.NewPCG(15, 4))
	made := 0
	for range 300 {
		r := someRegister(source)
		var all []api.Cert
		for range 6 {
			l := api.Link{Source: at(source.Uint64N(3)), Target: at(3 + source.Uint64N(20))}
			numbers := numbersTo(len(r.Members))
			shuffle(source, numbers)
			c, e := Make(r, l, votes(l, numbers[:source.IntN(len(numbers)+1)]...)...)
			if e == api.OK {
				holdBytes(t, c)
				all = append(all, c)
			}
		}
		for _, a := range all {
			made++
			for _, b := range all {
				holdCommon(t, r, a, b)
			}
		}
	}
	if made < 300 {
		t.Error(made)
	}
}

// P15.4: what Make tells checks in no register of other keys, and in none where its validators hold less, or are not active any more.
func TestOtherRegisters(t *testing.T) {
	r, l := register(1, 1, 1), ordinary()
	c, e := Make(r, l, votes(l, 1, 3)...)
	if e != api.OK {
		t.Fatal(e)
	}
	holdCheck(t, r, c, api.OK, "its own")
	holdCheck(t, changed(r, func(r *api.Register) { r.Churn = 99 }), c, api.OK, "of another churn")
	holdCheck(t, standing(r, 2, api.MemberGone), c, api.OK, "without who did not vote")
	holdCheck(t, standing(r, 1, api.MemberGoing), c, api.OK, "where one goes")
	holdCheck(t, standing(r, 3, api.MemberGone), c, api.ErrIdle, "where one is gone")
	holdCheck(t, standing(r, 1, api.MemberComing), c, api.ErrIdle, "where one comes")
	holdCheck(t, register(1, 2, 1), c, api.ErrNone, "where another one holds more")
	holdCheck(t, register(1, 1), c, api.ErrIdle, "where one is no member")
	turned := cloneRegister(r)
	turned.Members[0].Key, turned.Members[1].Key = r.Members[1].Key, r.Members[0].Key
	holdCheck(t, turned, c, api.ErrSig, "of other keys")
	turned = cloneRegister(r)
	turned.Members[2].Key[31] ^= 1
	holdCheck(t, turned, c, api.ErrSig, "of another key")
}

// P15.4: of a certificate by its bytes, all is told that is told of it.
func TestOfBytesIsIt(t *testing.T) {
	r, l := mixed(), ordinary()
	for _, c := range []api.Cert{cert(l, 1, 2, 3), cert(l, 1, 2, 3, 6), cert(l, 1), cert(l, 1, 4), unsigned(l, 1, 2, 3), withSigs(l, 0, 4096, 1216)} {
		b, e := Bytes(c)
		d, f := Of(b)
		if e != api.OK || f != api.OK || !Same(c, d) || !Same(d, c) || Check(r, c) != Check(r, d) || Stake(r, c) != Stake(r, d) || !May(d) {
			t.Errorf("votes of %v: %v, %v", numbersOf(c.Votes), e, f)
		}
	}
}
