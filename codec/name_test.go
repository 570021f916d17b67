package codec

import (
	"bytes"
	"crypto/sha256"
	"math/rand/v2"
	"testing"

	"landmark/api"
	"landmark/sha"
)

func textName(h api.Header) api.Hash {
	return sha256.Sum256(append([]byte{'h', 'e', 'a', 'd', 'e', 'r'}, textHeader(h)...))
}

func textText(v api.Vote) []byte { return append([]byte{'v', 'o', 't', 'e'}, textLink(v)...) }

// P9.3: names of headers that may be are reckoned anew; those of unlike headers are unlike.
func TestName(t *testing.T) {
	source := rand.New(rand.NewPCG(9, 2))
	l := rightHeaders()
	for range 200 {
		l = append(l, someHeader(source))
	}
	seen := map[api.Hash]int{}
	for i, h := range l {
		n, e := Name(h)
		if n != textName(h) || e != api.OK {
			t.Errorf("header %d: %s, %v", i, sha.Text(n), e)
		}
		if j, is := seen[n]; is {
			t.Error("two headers of one name:", i, j)
		}
		seen[n] = i
	}
}

// P9.3: a header that may not be has no name.
func TestNameWrong(t *testing.T) {
	for i, h := range wrongHeaders() {
		if n, e := Name(h); n != (api.Hash{}) || e != api.ErrArg {
			t.Errorf("header %d: %s, %v", i, sha.Text(n), e)
		}
	}
}

// P9.3: a name that was reckoned by another program, of a header of a deposit.
func TestNameByHand(t *testing.T) {
	h := api.Header{Parent: allOf(1), Epoch: 258, Ops: []api.HeaderOp{{Kind: api.OpDeposit, Key: allOf(2), Stake: 3}}}
	n, e := Name(h)
	if want := "d21b17dae0ac936d233a9d5578458fdbbb5b8c6594a08995efdfcbd0d2e9d7d4"; sha.Text(n) != want || e != api.OK {
		t.Error(sha.Text(n), e)
	}
}

// P9.3: what is signed of votes that may be, in 85 bytes.
func TestText(t *testing.T) {
	source := rand.New(rand.NewPCG(9, 3))
	l := rightVotes()
	for range 200 {
		l = append(l, someVote(source))
	}
	for i, v := range l {
		if b, e := Text(v); len(b) != 85 || !bytes.Equal(b, textText(v)) || e != api.OK {
			t.Errorf("vote %d: %x, %v", i, b, e)
		}
	}
}

// P9.3: of a vote that may not be nothing is signed, also where only its Sig is too long.
func TestTextWrong(t *testing.T) {
	for i, v := range append(wrongVotes(), longVotes()...) {
		if b, e := Text(v); b != nil || e != api.ErrArg {
			t.Errorf("vote %d: %x, %v", i, b, e)
		}
	}
	v := changed(vote(), func(v *api.Vote) { v.Sig = make([]byte, 4096) })
	if _, e := Text(v); e != api.OK {
		t.Error("a Sig of 4096 bytes:", e)
	}
	v.Sig = append(v.Sig, 0)
	if _, e := Text(v); e != api.ErrArg {
		t.Error("a Sig of 4097 bytes:", e)
	}
}

// P9.3: what is signed does not hang on the Sig, and on all else it does.
func TestTextHangsOn(t *testing.T) {
	want, _ := Text(vote())
	for _, sig := range [][]byte{nil, {}, {0}, make([]byte, 4096), bytes.Repeat([]byte{255}, 4096)} {
		if b, e := Text(changed(vote(), func(v *api.Vote) { v.Sig = sig })); !bytes.Equal(b, want) || e != api.OK {
			t.Errorf("a Sig of %d bytes: %x, %v", len(sig), b, e)
		}
	}
	for i, change := range otherVotes() {
		if b, e := Text(changed(vote(), change)); bytes.Equal(b, want) || e != api.OK {
			t.Errorf("change %d: %x, %v", i, b, e)
		}
	}
}

// otherVotes change one thing but the Sig.
func otherVotes() []func(*api.Vote) {
	return []func(*api.Vote){
		func(v *api.Vote) { v.Validator++ },
		func(v *api.Vote) { v.Source.Epoch++ },
		func(v *api.Vote) { v.Source.Name[0]++ },
		func(v *api.Vote) { v.Source.Name[31]++ },
		func(v *api.Vote) { v.Target.Epoch += 1 << 61 },
		func(v *api.Vote) { v.Target.Name[0]++ },
		func(v *api.Vote) { v.Target.Name[31]++ },
		func(v *api.Vote) { v.Source, v.Target = v.Target, v.Source },
	}
}
