package slash

import (
	"bytes"
	"crypto/sha256"
	"encoding/binary"
	"math"
	"math/rand/v2"
	"slices"
	"strconv"
	"testing"

	"landmark/api"
	"landmark/key"
)

// The chapter's words written anew, by going over all pairs, and over the library: the tests hold the package against them.

const mostEpoch = 4611686018427387904

// mayVote is whether a vote may be, by chapter 9.
func mayVote(v api.Vote) bool {
	return 1 <= v.Validator && v.Validator <= 64 && v.Source.Epoch <= mostEpoch && v.Target.Epoch <= mostEpoch && len(v.Sig) <= 4096
}

// within is whether a vote's link lies inside another one's: behind its source, ahead of its target.
func within(inner, outer api.Vote) bool {
	return outer.Source.Epoch < inner.Source.Epoch && inner.Target.Epoch < outer.Target.Epoch
}

// doBreak is whether two votes break the rules.
func doBreak(a, b api.Vote) bool {
	if a.Source == b.Source && a.Target == b.Target {
		return false
	}
	return a.Target.Epoch == b.Target.Epoch || within(a, b) || within(b, a)
}

// textOf is what is signed of a vote.
func textOf(v api.Vote) []byte {
	b := append([]byte("vote"), byte(v.Validator))
	for _, p := range []api.Point{v.Source, v.Target} {
		b = append(binary.BigEndian.AppendUint64(b, p.Epoch), p.Name[:]...)
	}
	return b
}

// sigOf is the signature of a vote by its target's epoch's number.
func sigOf(t *testing.T, v api.Vote, k *key.Key) []byte {
	t.Helper()
	return sigBy(t, k, int(v.Target.Epoch%16), textOf(v))
}

// sigBy is the signature of a text's hash by a number.
func sigBy(t *testing.T, k *key.Key, number int, text []byte) []byte {
	t.Helper()
	sig, e := k.Sign(number, sha256.Sum256(text))
	if e != api.OK {
		t.Fatal(e)
	}
	return sig
}

// found is where the two votes of some evidence stand.
type found struct{ first, other int }

// find is what Find is to answer: of each key the first pair, by places, of those of it that break the rules, in the order of their first places.
func find(l []api.Signed) []found {
	var pairs []found
	done := map[api.Hash]bool{}
	for i, a := range l {
		if done[a.Key] {
			continue
		}
		for j, b := range l[i+1:] {
			if !done[a.Key] && b.Key == a.Key && doBreak(a.Vote, b.Vote) {
				done[a.Key] = true
				pairs = append(pairs, found{i, i + 1 + j})
			}
		}
	}
	return pairs
}

// sameVote is whether two votes are the same, a nil signature being as an empty one.
func sameVote(a, b api.Vote) bool {
	return a.Validator == b.Validator && a.Source == b.Source && a.Target == b.Target && bytes.Equal(a.Sig, b.Sig)
}

func sameSigned(a, b api.Signed) bool {
	return a.Key == b.Key && a.Stake == b.Stake && sameVote(a.Vote, b.Vote)
}

func sameEvidence(a, b api.Evidence) bool {
	return a.Key == b.Key && sameVote(a.A, b.A) && sameVote(a.B, b.B)
}

// evidenceAt is the evidence of votes at these places.
func evidenceAt(l []api.Signed, places ...found) []api.Evidence {
	var all []api.Evidence
	for _, p := range places {
		all = append(all, api.Evidence{Key: l[p.first].Key, A: l[p.first].Vote, B: l[p.other].Vote})
	}
	return all
}

// wantFound wants just the evidence of votes at these places, and twice, and the list to be left as it was.
func wantFound(t *testing.T, l []api.Signed, places ...found) {
	t.Helper()
	given := cloneSigned(l)
	for range 2 {
		if got, want := Find(l), evidenceAt(l, places...); !slices.EqualFunc(got, want, sameEvidence) {
			t.Fatalf("Find of %v:\n%v\nwant %v:\n%v", told(l), toldEvidence(got), places, toldEvidence(want))
		}
	}
	if !slices.EqualFunc(l, given, sameSigned) {
		t.Fatal("what was handed in was changed")
	}
}

// holdFind holds Find against the words.
func holdFind(t *testing.T, l []api.Signed) []found {
	t.Helper()
	places := find(l)
	wantFound(t, l, places...)
	return places
}

// told is a list's keys and epochs, as far as they are short.
func told(l []api.Signed) []string {
	var lines []string
	for _, one := range l {
		lines = append(lines, string(rune('a'+one.Key[31]%26))+":"+toldVote(one.Vote))
	}
	return lines
}

func toldEvidence(l []api.Evidence) []string {
	var lines []string
	for _, e := range l {
		lines = append(lines, string(rune('a'+e.Key[31]%26))+":"+toldVote(e.A)+","+toldVote(e.B)+"/"+string(e.A.Sig)+","+string(e.B.Sig))
	}
	return lines
}

func toldVote(v api.Vote) string { return toldPoint(v.Source) + "-" + toldPoint(v.Target) }

func toldPoint(p api.Point) string {
	return strconv.FormatUint(p.Epoch, 10) + "." + strconv.Itoa(int(p.Name[0]))
}

func cloneSigned(l []api.Signed) []api.Signed {
	l = slices.Clone(l)
	for i := range l {
		l[i].Vote.Sig = bytes.Clone(l[i].Vote.Sig)
	}
	return l
}

// allOf is a hash of one byte.
func allOf(x byte) api.Hash { return api.Hash(bytes.Repeat([]byte{x}, 32)) }

// keyOf is a number's key, of which nobody has the secrets.
func keyOf(n int) api.Hash { return api.Hash{0: 7, 29: byte(n >> 16), 30: byte(n >> 8), 31: byte(n)} }

// at is an epoch's ordinary checkpoint; named is another one of it.
func at(epoch uint64) api.Point { return named(epoch, 1) }

func named(epoch uint64, name byte) api.Point {
	return api.Point{Epoch: epoch, Name: api.Hash{0: name, 31: 9}}
}

// link is a vote from one checkpoint to another one, without a signature.
func link(source, target api.Point) api.Vote {
	return api.Vote{Validator: 3, Source: source, Target: target}
}

// vote is one from an epoch's ordinary checkpoint to another one's.
func vote(source, target uint64) api.Vote { return link(at(source), at(target)) }

// list is votes of keys, one for each text: the key's letter, and the epochs of the source and the target by one digit each. Each has a signature of its own, which is none.
func list(texts ...string) []api.Signed {
	var l []api.Signed
	for i, text := range texts {
		v := vote(uint64(text[1]-'0'), uint64(text[2]-'0'))
		v.Sig = append([]byte("sig "), byte('0'+i))
		l = append(l, api.Signed{Vote: v, Key: keyOf(int(text[0] - 'a')), Stake: 1})
	}
	return l
}

// changed is x with a change; the change is a copy's.
func changed[T any](x T, change func(*T)) T {
	change(&x)
	return x
}

// partChanges each change one part of a vote's link alone, by its name.
func partChanges() map[string]func(*api.Vote) {
	return map[string]func(*api.Vote){
		"the source's name":  func(v *api.Vote) { v.Source.Name[0] ^= 1 },
		"the source's epoch": func(v *api.Vote) { v.Source.Epoch++ },
		"the target's name":  func(v *api.Vote) { v.Target.Name[31] ^= 128 },
		"the target's epoch": func(v *api.Vote) { v.Target.Epoch++ },
	}
}

// wrongVotes each are a vote with one thing that may not be.
func wrongVotes(right api.Vote) []api.Vote {
	var l []api.Vote
	wrong := func(change func(*api.Vote)) { l = append(l, changed(right, change)) }
	for _, n := range []int{0, -1, -63, 65, 66, 128, 255, 256, 257, 259, 1<<32 + 3, math.MinInt, math.MaxInt} {
		wrong(func(v *api.Vote) { v.Validator = n })
	}
	for _, epoch := range []uint64{mostEpoch + 1, mostEpoch + 16, 1<<63 - 1, 1 << 63, math.MaxUint64} {
		wrong(func(v *api.Vote) { v.Source.Epoch = epoch })
		wrong(func(v *api.Vote) { v.Target.Epoch = epoch })
	}
	for _, size := range []int{4097, 65535, 65536, 1 << 20} {
		wrong(func(v *api.Vote) { v.Sig = make([]byte, size) })
	}
	return l
}

// isNoVote is whether an answer is nothing.
func isNoVote(v api.Vote) bool { return sameVote(v, api.Vote{}) }

// signed is a vote that a key signs.
func signed(t *testing.T, v api.Vote, k *key.Key) api.Vote {
	t.Helper()
	s, e := Sign(v, k)
	if e != api.OK {
		t.Fatalf("Sign of %v: %v", toldVote(v), e)
	}
	return s
}

// keys are some keys. What they have reckoned is kept for all tests of one list.
func keys(texts ...string) []*key.Key {
	var l []*key.Key
	for _, text := range texts {
		l = append(l, key.Make(key.Seed(text)))
	}
	return l
}

// noKeys are a nil key, and a zero one.
func noKeys() []*key.Key { return []*key.Key{nil, {}, new(key.Key)} }

// spoil changes a signature, and what lies behind it where it has room.
func spoil(b []byte) {
	b = b[:cap(b)]
	for i := range b {
		b[i] ^= 255
	}
}

// someVotes are votes by chance, of few keys, epochs and names; the narrower they are the more of them break rules.
func someVotes(source *rand.Rand, n, keys int, epochs uint64, names int) []api.Signed {
	var l []api.Signed
	for i := range n {
		from := source.Uint64N(epochs)
		v := link(named(from, byte(source.IntN(names))), named(from+1+source.Uint64N(3), byte(source.IntN(names))))
		if source.IntN(8) == 0 {
			v.Source, v.Target = v.Target, v.Source
		}
		v.Sig = binary.BigEndian.AppendUint32(nil, uint32(i))
		l = append(l, api.Signed{Vote: v, Key: keyOf(source.IntN(keys)), Stake: 1 + source.Uint64N(9)})
	}
	return l
}
