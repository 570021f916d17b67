package slash

import (
	"bytes"
	"crypto/sha256"
	"testing"

	"landmark/api"
	"landmark/key"
)

// rightVotes are votes at the edges of what may be, without signatures, and each number's.
func rightVotes() []api.Vote {
	l := []api.Vote{
		{Validator: 1}, {Validator: 64}, vote(0, 1), vote(5, 6), vote(6, 5), vote(7, 7), vote(0, mostEpoch), vote(mostEpoch, 0), vote(mostEpoch, mostEpoch),
		link(api.Point{Epoch: 1<<32 + 1, Name: allOf(255)}, api.Point{Epoch: 1<<61 + 258}),
	}
	for epoch := range uint64(35) {
		l = append(l, vote(3, epoch))
	}
	return l
}

// P14.1, P14.3: Sign tells the vote with its signature, byte by byte, and that is signed by the key's root.
func TestSign(t *testing.T) {
	for _, k := range keys("a", "b") {
		for _, v := range rightVotes() {
			s, e := Sign(v, k)
			want := changed(v, func(v *api.Vote) { v.Sig = sigOf(t, *v, k) })
			if !sameVote(s, want) || e != api.OK || len(s.Sig) != 1216 {
				t.Errorf("Sign of %s: %v; %d bytes, %x", toldVote(v), e, len(s.Sig), s.Sig)
			}
			if e := Signed(s, k.Root()); e != api.OK {
				t.Errorf("Signed of %s: %v", toldVote(v), e)
			}
		}
	}
}

// P14.1: a vote's own signature is nothing to Sign, also one that is too long; all else is in what it tells.
func TestSignOwnSig(t *testing.T) {
	k := key.Make(key.Seed("a"))
	v := vote(5, 22)
	want := changed(v, func(v *api.Vote) { v.Sig = sigOf(t, *v, k) })
	other := signed(t, vote(6, 22), k).Sig
	for _, sig := range [][]byte{nil, {}, {1}, want.Sig, other, make([]byte, 1216), make([]byte, 4096), make([]byte, 4097), make([]byte, 65536), make([]byte, 1<<20)} {
		s, e := Sign(changed(v, func(v *api.Vote) { v.Sig = sig }), k)
		if !sameVote(s, want) || e != api.OK {
			t.Errorf("with a signature of %d bytes: %v; %d bytes", len(sig), e, len(s.Sig))
		}
	}
}

// P14.1: no key, a vote that may not be, and both at once.
func TestSignErrors(t *testing.T) {
	right := vote(5, 6)
	asked := key.Make(key.Seed("a"))
	asked.Root()
	for _, v := range wrongVotes(right) {
		// Of Sign, the signature is not looked at.
		wanted := api.ErrArg
		if len(v.Sig) > 0 {
			wanted = api.OK
		}
		for _, k := range []*key.Key{asked, key.Make(api.Hash{})} {
			if s, e := Sign(v, k); e != wanted || isNoVote(s) != (e != api.OK) {
				t.Errorf("Sign of what may not be: %v; %v", s, e)
			}
		}
	}
	for _, k := range noKeys() {
		for _, v := range append(wrongVotes(right), right, api.Vote{}, signed(t, right, asked)) {
			if s, e := Sign(v, k); e != api.ErrNil || !isNoVote(s) || s.Sig != nil {
				t.Errorf("Sign with no key: %v; %v", s, e)
			}
		}
	}
	// A key of the seed of noughts is a key.
	if s, e := Sign(right, key.Make(api.Hash{})); e != api.OK || len(s.Sig) != 1216 {
		t.Error(e)
	}
}

// wantSigned wants that answer, and again.
func wantSigned(t *testing.T, v api.Vote, root api.Hash, want api.Errno, why string) {
	t.Helper()
	for range 2 {
		if e := Signed(v, root); e != want {
			t.Errorf("%s: Signed of %s: %v; want %v", why, toldVote(v), e, want)
		}
	}
}

// P14.1: a vote that may not be, for each reason of layer 9, whatever its signature is, and whatever the root.
func TestSignedWrongVote(t *testing.T) {
	k := key.Make(key.Seed("a"))
	for _, right := range []api.Vote{vote(5, 6), signed(t, vote(5, 6), k)} {
		for _, v := range wrongVotes(right) {
			for _, root := range []api.Hash{k.Root(), {}, allOf(255)} {
				wantSigned(t, v, root, api.ErrArg, "what may not be")
			}
			// Even one that somebody signed.
			if len(v.Sig) <= 4096 {
				v.Sig = sigOf(t, v, k)
				wantSigned(t, v, k.Root(), api.ErrArg, "what may not be, with a signature of it")
			}
		}
	}
	long := signed(t, vote(5, 6), k)
	long.Sig = append(long.Sig, make([]byte, 4097-1216)...)
	wantSigned(t, long, k.Root(), api.ErrArg, "a byte more than a signature may have")
	long.Sig = long.Sig[:4096]
	wantSigned(t, long, k.Root(), api.ErrSig, "as many bytes as a signature may have")
}

// P14.1: signatures of other sizes: none, too short, too long.
func TestSignedWrongSize(t *testing.T) {
	k := key.Make(key.Seed("a"))
	v := signed(t, vote(5, 6), k)
	sig := v.Sig
	long := append(bytes.Clone(sig), sig...)
	for _, wrong := range [][]byte{nil, {}, long[:1], long[:1088], long[:1184], long[:1215], long[1:1216], long[:1217], long[:1248], long[:2432], make([]byte, 4096), append([]byte{0}, sig...), append(bytes.Clone(sig), 0)} {
		v.Sig = wrong
		wantSigned(t, v, k.Root(), api.ErrSig, "another size")
	}
	v.Sig = sig
	wantSigned(t, v, k.Root(), api.OK, "the signature itself")
}

// P14.1: each byte of a signature is another one.
func TestSignedTurned(t *testing.T) {
	k := key.Make(key.Seed("a"))
	v := signed(t, vote(5, 6), k)
	for i := range v.Sig {
		v.Sig[i] ^= 1 << (i % 8)
		if e := Signed(v, k.Root()); e != api.ErrSig {
			t.Errorf("with the byte %d turned: %v", i, e)
		}
		v.Sig[i] ^= 1 << (i % 8)
	}
	wantSigned(t, v, k.Root(), api.OK, "turned back")
	v.Sig = make([]byte, 1216)
	wantSigned(t, v, k.Root(), api.ErrSig, "noughts")
}

// P14.1: a signature by each number but the one of the target's epoch is none.
func TestSignedNumber(t *testing.T) {
	k := key.Make(key.Seed("a"))
	for _, epoch := range []uint64{0, 6, 15, 16, 17, 1<<32 + 3, mostEpoch} {
		v := vote(5, epoch)
		for number := range 16 {
			want := api.ErrSig
			if uint64(number) == epoch%16 {
				want = api.OK
			}
			v.Sig = sigBy(t, k, number, textOf(v))
			wantSigned(t, v, k.Root(), want, "by another number")
		}
	}
}

// P14.1: the signature of another vote, which differs in one thing alone.
func TestSignedOtherVote(t *testing.T) {
	k := key.Make(key.Seed("a"))
	v := signed(t, vote(5, 6), k)
	changes := partChanges()
	changes["the validator"] = func(v *api.Vote) { v.Validator++ }
	// Of one number with it.
	changes["the target's epoch, by 16"] = func(v *api.Vote) { v.Target.Epoch += 16 }
	changes["the source's epoch, by 2^61"] = func(v *api.Vote) { v.Source.Epoch += 1 << 61 }
	changes["source and target"] = func(v *api.Vote) { v.Source.Name, v.Target.Name = allOf(1), v.Source.Name }
	for part, change := range changes {
		other := changed(v, change)
		wantSigned(t, other, k.Root(), api.ErrSig, part)
		wantSigned(t, changed(v, func(v *api.Vote) { v.Sig = sigOf(t, other, k) }), k.Root(), api.ErrSig, part+", the other way round")
		wantSigned(t, signed(t, other, k), k.Root(), api.OK, part+", signed itself")
	}
}

// P14.1: what is signed is chapter 9's text, and no other one: not the vote's bytes, not the text without its first four, nor with the signature behind it.
func TestSignedText(t *testing.T) {
	k := key.Make(key.Seed("a"))
	v := vote(5, 6)
	text := textOf(v)
	once := sha256.Sum256(text)
	for name, wrong := range map[string][]byte{
		"nothing": nil, "no sign ahead": text[4:], "a vote's bytes": append(bytes.Clone(text[4:]), 0, 0), "an empty blob behind it": append(bytes.Clone(text), 0, 0),
		"another sign ahead": append([]byte("Vote"), text[4:]...), "cut": text[:len(text)-1], "the hash": once[:],
	} {
		v.Sig = sigBy(t, k, 6, wrong)
		wantSigned(t, v, k.Root(), api.ErrSig, name)
	}
	v.Sig = sigBy(t, k, 6, text)
	wantSigned(t, v, k.Root(), api.OK, "the text")
}

// P14.1, P14.3: of another root: other keys', noughts, each bit of the right one turned.
func TestSignedRoot(t *testing.T) {
	l := keys("a", "b", "")
	v := signed(t, vote(5, 6), l[0])
	root := l[0].Root()
	for _, wrong := range []api.Hash{{}, allOf(255), l[1].Root(), l[2].Root(), key.Seed("a")} {
		wantSigned(t, v, wrong, api.ErrSig, "another root")
	}
	for bit := range 256 {
		root[bit/8] ^= 1 << (bit % 8)
		wantSigned(t, v, root, api.ErrSig, "a bit of the root turned")
		root[bit/8] ^= 1 << (bit % 8)
	}
	wantSigned(t, v, root, api.OK, "its own")
	// No key's root is noughts, and nothing is signed by it.
	for _, none := range noKeys() {
		for _, sig := range [][]byte{nil, make([]byte, 1216), v.Sig} {
			wantSigned(t, changed(v, func(v *api.Vote) { v.Sig = sig }), none.Root(), api.ErrSig, "no key's root")
		}
	}
}

// P14.1: what is handed in is not changed, and what Sign tells is the caller's.
func TestSignMemory(t *testing.T) {
	k := key.Make(key.Seed("a"))
	own := append(make([]byte, 0, 4096), "own sig"...)
	v := changed(vote(5, 6), func(v *api.Vote) { v.Sig = own })
	first, second := signed(t, v, k), signed(t, v, k)
	if !sameVote(v, changed(vote(5, 6), func(v *api.Vote) { v.Sig = []byte("own sig") })) || !bytes.Equal(own[7:4096], make([]byte, 4089)) {
		t.Error("what was handed in was changed")
	}
	spoil(v.Sig)
	want := sigOf(t, v, k)
	spoil(first.Sig)
	if !bytes.Equal(second.Sig, want) || !bytes.Equal(signed(t, v, k).Sig, want) {
		t.Error("two answers share something")
	}
	spoil(v.Sig)
	if !bytes.Equal(second.Sig, want) {
		t.Error("an answer shares something with what was handed in")
	}
	given := bytes.Clone(second.Sig)
	for _, root := range []api.Hash{k.Root(), {}} {
		Signed(second, root)
		Check(api.Evidence{Key: root, A: second, B: signed(t, vote(4, 6), k)})
	}
	if !bytes.Equal(second.Sig, given) {
		t.Error("what was handed in was changed")
	}
}

// What many ask of one key at once is the same for each.
func TestSignByMany(t *testing.T) {
	k, other := key.Make(key.Seed("a")), key.Make(key.Seed("a"))
	want := signed(t, vote(5, 6), other)
	answers := make(chan bool)
	for range 8 {
		go func() {
			s, e := Sign(vote(5, 6), k)
			answers <- e == api.OK && sameVote(s, want) && Signed(s, k.Root()) == api.OK
		}()
	}
	for range 8 {
		if !<-answers {
			t.Error("an answer is another one")
		}
	}
}
