package cert

import (
	"bytes"
	"crypto/sha256"
	"encoding/binary"
	"math"
	"math/big"
	"math/rand/v2"
	"reflect"
	"slices"
	"strconv"
	"testing"

	"landmark/api"
	"landmark/key"
	"landmark/registry"
)

// The chapter's words written anew over the library: the tests hold the package against them.

const mostEpoch = 4611686018427387904

func mayPoint(p api.Point) bool { return p.Epoch <= mostEpoch }

// mayVote is whether a vote may be, by chapter 9.
func mayVote(v api.Vote) bool {
	return 1 <= v.Validator && v.Validator <= 64 && mayPoint(v.Source) && mayPoint(v.Target) && len(v.Sig) <= 4096
}

func isOf(v api.Vote, l api.Link) bool { return v.Source == l.Source && v.Target == l.Target }

// mayTold is whether a certificate may be told.
func mayTold(c api.Cert) bool {
	if !mayPoint(c.Link.Source) || !mayPoint(c.Link.Target) || len(c.Votes) < 1 || len(c.Votes) > 64 {
		return false
	}
	for i, v := range c.Votes {
		if !isOf(v, c.Link) || !mayVote(v) || i > 0 && v.Validator <= c.Votes[i-1].Validator {
			return false
		}
	}
	return true
}

func textPoint(p api.Point) []byte {
	return append(binary.BigEndian.AppendUint64(nil, p.Epoch), p.Name[:]...)
}

// textOf is what is signed of a vote.
func textOf(v api.Vote) []byte {
	return slices.Concat([]byte("vote"), []byte{byte(v.Validator)}, textPoint(v.Source), textPoint(v.Target))
}

// voteBytes is a vote's bytes, by chapter 9.
func voteBytes(v api.Vote) []byte {
	return append(binary.BigEndian.AppendUint16(textOf(v)[4:], uint16(len(v.Sig))), v.Sig...)
}

// bytesOf is what a certificate's bytes are, whether it may be told or not; n is how many votes they say.
func bytesOf(l api.Link, n int, votes ...api.Vote) []byte {
	b := slices.Concat(textPoint(l.Source), textPoint(l.Target), []byte{byte(n)})
	for _, v := range votes {
		one := voteBytes(v)
		b = append(binary.BigEndian.AppendUint16(b, uint16(len(one))), one...)
	}
	return b
}

// taken is bytes that are taken off the front, and whether all was right so far.
type taken struct {
	b  []byte
	ok bool
}

func (t *taken) bytes(n int) []byte {
	if n > len(t.b) {
		t.ok, t.b = false, nil
		return make([]byte, n)
	}
	piece := t.b[:n]
	t.b = t.b[n:]
	return bytes.Clone(piece)
}

// number is a number that has to be from one to another.
func (t *taken) number(size int, from, to uint64) int {
	n := binary.BigEndian.Uint64(append(make([]byte, 8-size), t.bytes(size)...))
	t.ok = t.ok && from <= n && n <= to
	return int(n)
}

func (t *taken) point() api.Point {
	return api.Point{Epoch: uint64(t.number(8, 0, mostEpoch)), Name: api.Hash(t.bytes(32))}
}

func (t *taken) vote() api.Vote {
	size, left := t.number(2, 0, 65535), len(t.b)
	v := api.Vote{Validator: t.number(1, 1, 64), Source: t.point(), Target: t.point()}
	v.Sig = t.bytes(t.number(2, 0, 4096))
	t.ok = t.ok && left-len(t.b) == size
	return v
}

// certOf is the certificate of bytes, and whether they are some one's.
func certOf(b []byte) (api.Cert, bool) {
	t := taken{b, true}
	c := api.Cert{Link: api.Link{Source: t.point(), Target: t.point()}}
	for range t.number(1, 1, 64) {
		c.Votes = append(c.Votes, t.vote())
	}
	return c, t.ok && len(t.b) == 0 && mayTold(c)
}

func isActive(r api.Register, n int) bool {
	return 1 <= n && n <= len(r.Members) && (r.Members[n-1].Status == 2 || r.Members[n-1].Status == 3)
}

// lackOf is what a vote lacks, in a register that may be.
func lackOf(r api.Register, v api.Vote) api.Errno {
	switch {
	case !mayVote(v):
		return api.ErrArg
	case !isActive(r, v.Validator):
		return api.ErrIdle
	case key.Check(r.Members[v.Validator-1].Key, int(v.Target.Epoch%16), sha256.Sum256(textOf(v)), v.Sig) != api.OK:
		return api.ErrSig
	}
	return api.OK
}

// stakeOf is what those of some numbers hold who are active.
func stakeOf(r api.Register, numbers ...int) *big.Int {
	sum := new(big.Int)
	for _, n := range numbers {
		if isActive(r, n) {
			sum.Add(sum, new(big.Int).SetUint64(r.Members[n-1].Stake))
		}
	}
	return sum
}

// numbersTo are all from 1 on.
func numbersTo(n int) []int {
	var l []int
	for i := range n {
		l = append(l, i+1)
	}
	return l
}

// numbersOf are whose some votes are.
func numbersOf(votes []api.Vote) []int {
	var l []int
	for _, v := range votes {
		l = append(l, v.Validator)
	}
	return l
}

// isEnough: is a stake a quorum, of a total?
func isEnough(stake, total *big.Int) bool {
	return new(big.Int).Mul(stake, big.NewInt(3)).Cmp(new(big.Int).Mul(total, big.NewInt(2))) >= 0
}

// isQuorum: are those of some numbers one, each of them once?
func isQuorum(r api.Register, numbers ...int) bool {
	return isEnough(stakeOf(r, numbers...), stakeOf(r, numbersTo(len(r.Members))...))
}

// makeOf is what Make is to answer: of each number the first vote that lacks nothing.
func makeOf(r api.Register, l api.Link, votes []api.Vote) (api.Cert, api.Errno) {
	if !registry.May(r) || !mayPoint(l.Source) || !mayPoint(l.Target) {
		return api.Cert{}, api.ErrArg
	}
	c := api.Cert{Link: l}
	for n := range 65 {
		i := slices.IndexFunc(votes, func(v api.Vote) bool { return v.Validator == n && isOf(v, l) && lackOf(r, v) == api.OK })
		if i >= 0 {
			c.Votes = append(c.Votes, votes[i])
		}
	}
	if !isQuorum(r, numbersOf(c.Votes)...) {
		return api.Cert{}, api.ErrNone
	}
	return c, api.OK
}

// checkOf is what Check is to answer.
func checkOf(r api.Register, c api.Cert) api.Errno {
	if !registry.May(r) || !mayTold(c) {
		return api.ErrArg
	}
	for _, v := range c.Votes {
		if e := lackOf(r, v); e != api.OK {
			return e
		}
	}
	if !isQuorum(r, numbersOf(c.Votes)...) {
		return api.ErrNone
	}
	return api.OK
}

// same is whether two are the same, nil lists being as empty ones.
func same(a, b api.Cert) bool {
	return a.Link == b.Link && slices.EqualFunc(a.Votes, b.Votes, sameVote)
}

func sameVote(a, b api.Vote) bool {
	return a.Validator == b.Validator && a.Source == b.Source && a.Target == b.Target && bytes.Equal(a.Sig, b.Sig)
}

// isNone is whether an answer is nothing.
func isNone(c api.Cert) bool { return c.Link == api.Link{} && len(c.Votes) == 0 }

// What the tests give.

// ring are keys, the first one the member 1's, and so on; what they have reckoned is kept for all tests.
var ring []*key.Key

func keyOf(n int) *key.Key {
	for len(ring) < n {
		ring = append(ring, key.Make(key.Seed("member "+strconv.Itoa(len(ring)+1))))
	}
	return ring[n-1]
}

// register is one of members of MemberActive with such stakes.
func register(stakes ...uint64) api.Register {
	r := api.Register{Churn: 5}
	for i, stake := range stakes {
		r.Members = append(r.Members, api.Member{Key: keyOf(i + 1).Root(), Stake: stake, Status: api.MemberActive})
	}
	return r
}

// equals are so many of one stake.
func equals(n int, stake uint64) []uint64 { return slices.Repeat([]uint64{stake}, n) }

// standing is a copy in which a member has another status; those who come and go stand in line by numbers.
func standing(r api.Register, n int, s api.MemberStatus) api.Register {
	r = cloneRegister(r)
	r.Members[n-1].Status = s
	r.Coming, r.Going = nil, nil
	for i, m := range r.Members {
		switch m.Status {
		case api.MemberComing:
			r.Coming = append(r.Coming, i+1)
		case api.MemberGoing:
			r.Going = append(r.Going, i+1)
		}
	}
	return r
}

// mixed is a register of all statuses: 1 and 2 are of MemberActive, 3 goes (and is marked), 4 is gone, 5 comes, 6 is of MemberActive. The total is 1000; 1, 2 and 3 hold 700.
func mixed() api.Register {
	r := register(300, 200, 200, 5000, 5000, 300)
	r.Members[2].Marked = true
	for n, s := range map[int]api.MemberStatus{3: api.MemberGoing, 4: api.MemberGone, 5: api.MemberComing} {
		r = standing(r, n, s)
	}
	return r
}

func cloneRegister(r api.Register) api.Register {
	r.Members, r.Coming, r.Going = slices.Clone(r.Members), slices.Clone(r.Coming), slices.Clone(r.Going)
	return r
}

func cloneVotes(l []api.Vote) []api.Vote {
	l = slices.Clone(l)
	for i := range l {
		l[i].Sig = bytes.Clone(l[i].Sig)
	}
	return l
}

func cloneCert(c api.Cert) api.Cert {
	c.Votes = cloneVotes(c.Votes)
	return c
}

// changed is x with a change; the change is a copy's, not x's own list's.
func changed[T any](x T, change func(*T)) T {
	change(&x)
	return x
}

// wrongRegisters each are right in all but one thing. Those who hold far the most in them are the members 1, 2 and 3, which are active.
func wrongRegisters() map[string]api.Register {
	wrong := map[string]api.Register{"zero": {}, "no members": {Churn: 5}}
	add := func(name string, change func(*api.Register)) {
		r := cloneRegister(register(1000, 1000, 1000, 10, 10))
		change(&r)
		wrong[name] = r
	}
	add("no churn", func(r *api.Register) { r.Churn = 0 })
	add("too great a churn", func(r *api.Register) { r.Churn = 1<<62 + 1 })
	add("no stake", func(r *api.Register) { r.Members[4].Stake = 0 })
	add("too great a stake", func(r *api.Register) { r.Members[0].Stake = 1<<32 + 1 })
	add("no status", func(r *api.Register) { r.Members[4].Status = 0 })
	add("a status of none", func(r *api.Register) { r.Members[4].Status = 5 })
	add("two of one key", func(r *api.Register) { r.Members[4].Key = r.Members[3].Key })
	add("one who comes is in no line", func(r *api.Register) { r.Members[4].Status = api.MemberComing })
	add("one who goes is in no line", func(r *api.Register) { r.Members[1].Status = api.MemberGoing })
	add("one who is active comes", func(r *api.Register) { r.Coming = []int{1} })
	add("one who is active goes", func(r *api.Register) { r.Going = []int{2} })
	add("one goes twice", func(r *api.Register) { r.Members[2].Status, r.Going = api.MemberGoing, []int{3, 3} })
	add("nobody goes", func(r *api.Register) { r.Going = []int{0} })
	add("all go", func(r *api.Register) {
		r.Going = []int{1, 2, 3, 4, 5}
		for i := range r.Members {
			r.Members[i].Status = api.MemberGoing
		}
	})
	add("65 members", func(r *api.Register) {
		for i := range byte(60) {
			r.Members = append(r.Members, api.Member{Key: api.Hash{i, 9}, Stake: 1, Status: api.MemberActive})
		}
	})
	return wrong
}

// allOf is a hash of one byte.
func allOf(x byte) api.Hash { return api.Hash(bytes.Repeat([]byte{x}, 32)) }

func at(epoch uint64) api.Point { return api.Point{Epoch: epoch, Name: api.Hash{0: 1, 31: 9}} }

// ordinary is an ordinary link.
func ordinary() api.Link { return api.Link{Source: at(5), Target: at(6)} }

// partChanges each change one part of a link alone, by its name.
func partChanges() map[string]func(*api.Link) {
	return map[string]func(*api.Link){
		"the source's epoch": func(l *api.Link) { l.Source.Epoch-- },
		"the source's name":  func(l *api.Link) { l.Source.Name[0] ^= 1 },
		"the target's epoch": func(l *api.Link) { l.Target.Epoch++ },
		"the target's name":  func(l *api.Link) { l.Target.Name[31] ^= 128 },
	}
}

// wrongLinks each have a point that may not be, or two.
func wrongLinks() []api.Link {
	var l []api.Link
	for _, epoch := range []uint64{mostEpoch + 1, mostEpoch + 6, 1<<63 - 1, 1 << 63, math.MaxUint64} {
		l = append(l, api.Link{Source: at(epoch), Target: at(6)}, api.Link{Source: at(5), Target: at(epoch)}, api.Link{Source: at(epoch), Target: at(epoch)})
	}
	return l
}

// bare is a number's vote of a link, without a signature.
func bare(n int, l api.Link) api.Vote {
	return api.Vote{Validator: n, Source: l.Source, Target: l.Target}
}

// asked is what a signature was made of: whose key, by which number, of which hash.
type asked struct {
	signer, number int
	hash           [32]byte
}

var signatures = map[asked][]byte{}

// sigBy is the signature of a text's hash, by a number of somebody's key.
func sigBy(signer, number int, text []byte) []byte {
	q := asked{signer, number, sha256.Sum256(text)}
	if _, isKnown := signatures[q]; !isKnown {
		sig, e := keyOf(signer).Sign(number, q.hash)
		if e != api.OK {
			panic(e)
		}
		signatures[q] = sig
	}
	return bytes.Clone(signatures[q])
}

// signedBy is a vote that somebody has signed.
func signedBy(signer int, v api.Vote) api.Vote {
	v.Sig = sigBy(signer, int(v.Target.Epoch%16), textOf(v))
	return v
}

// vote is a number's vote of a link, signed by it.
func vote(n int, l api.Link) api.Vote { return signedBy(n, bare(n, l)) }

// votes are some of a link.
func votes(l api.Link, numbers ...int) []api.Vote {
	var all []api.Vote
	for _, n := range numbers {
		all = append(all, vote(n, l))
	}
	return all
}

// cert is one of a link.
func cert(l api.Link, numbers ...int) api.Cert { return api.Cert{Link: l, Votes: votes(l, numbers...)} }

// wrongVotes each are a vote with one thing that may not be, signed as far as that can be done.
func wrongVotes(n int, l api.Link) map[string]api.Vote {
	wrong := map[string]api.Vote{}
	for _, other := range []int{0, -1, -n, n - 256, 65, 66, 127, 128, 255, 256, 256 + n, 1<<16 + n, 1<<32 + n, math.MinInt, math.MaxInt} {
		wrong["validator "+strconv.Itoa(other)] = signedBy(n, bare(other, l))
	}
	for i, other := range wrongLinks() {
		wrong["link "+strconv.Itoa(i)] = signedBy(n, bare(n, other))
	}
	for _, size := range []int{4097, 4096 + 1216, 65535, 65536, 65536 + 1216} {
		sig := append(vote(n, l).Sig, make([]byte, size-1216)...)
		wrong["a signature of "+strconv.Itoa(size)] = changed(bare(n, l), func(v *api.Vote) { v.Sig = sig })
	}
	return wrong
}

// wrongSigs each are none of a number's vote of a link.
func wrongSigs(n int, l api.Link) map[string][]byte {
	v := vote(n, l)
	sig, text, number := v.Sig, textOf(v), int(l.Target.Epoch%16)
	hash := sha256.Sum256(text)
	wrong := map[string][]byte{
		"nil": nil, "none": {}, "one byte": {1}, "noughts": make([]byte, 1216), "as many bytes as may be": make([]byte, 4096),
		"cut": sig[:1215], "cut ahead": sig[1:], "without a path": sig[:1088], "one byte more": append(bytes.Clone(sig), 0), "twice": slices.Concat(sig, sig), "up to the most bytes": append(bytes.Clone(sig), make([]byte, 4096-1216)...),
		"another key": sigBy(n+1, number, text), "no sign ahead": sigBy(n, number, text[4:]), "a vote's bytes": sigBy(n, number, voteBytes(bare(n, l))), "the hash's hash": sigBy(n, number, hash[:]), "another validator's": sigBy(n, number, textOf(bare(n+1, l))),
	}
	for _, i := range []int{0, 31, 500, 1087, 1088, 1215} {
		wrong["the byte "+strconv.Itoa(i)+" turned"] = changed(bytes.Clone(sig), func(b *[]byte) { (*b)[i] ^= 4 })
	}
	for other := range 16 {
		if other != number {
			wrong["number "+strconv.Itoa(other)] = sigBy(n, other, text)
		}
	}
	for part, change := range partChanges() {
		wrong["another one in "+part] = sigBy(n, number, textOf(bare(n, changed(l, change))))
		wrong["the signature of another one in "+part] = vote(n, changed(l, change)).Sig
	}
	return wrong
}

// holdMake wants of Make what the words tell, twice, and what was handed in to be left as it was; what is made checks, and may be told.
func holdMake(t *testing.T, r api.Register, l api.Link, given []api.Vote, why string) (api.Cert, api.Errno) {
	t.Helper()
	want, code := makeOf(r, l, given)
	register, votes := cloneRegister(r), cloneVotes(given)
	for range 2 {
		c, e := Make(r, l, given...)
		if e != code || !same(c, want) {
			t.Fatalf("%s: Make of votes of %v: %v, votes of %v; want %v, of %v", why, numbersOf(given), e, numbersOf(c.Votes), code, numbersOf(want.Votes))
		}
		if e != api.OK && !isNone(c) {
			t.Fatalf("%s: something beside an error", why)
		}
		if e == api.OK && (!May(c) || Check(r, c) != api.OK) {
			t.Fatalf("%s: what was made may not be, or does not check: %v", why, Check(r, c))
		}
	}
	if !reflect.DeepEqual(r, register) || !slices.EqualFunc(given, votes, sameVote) {
		t.Fatalf("%s: what was handed in was changed", why)
	}
	return want, code
}

// wantMade wants a certificate of just these.
func wantMade(t *testing.T, r api.Register, l api.Link, given []api.Vote, why string, numbers ...int) {
	t.Helper()
	c, e := holdMake(t, r, l, given, why)
	if e != api.OK || !same(c, cert(l, numbers...)) {
		t.Fatalf("%s: Make of votes of %v: %v, votes of %v; want of %v", why, numbersOf(given), e, numbersOf(c.Votes), numbers)
	}
}

// wantNone wants that error of Make.
func wantNone(t *testing.T, r api.Register, l api.Link, given []api.Vote, want api.Errno, why string) {
	t.Helper()
	if _, e := holdMake(t, r, l, given, why); e != want {
		t.Fatalf("%s: Make of votes of %v: %v; want %v", why, numbersOf(given), e, want)
	}
}

// holdCheck wants that answer of Check, twice, which is what the words tell; nothing that was handed in is changed.
func holdCheck(t *testing.T, r api.Register, c api.Cert, want api.Errno, why string) {
	t.Helper()
	register, given := cloneRegister(r), cloneCert(c)
	for range 2 {
		if e := Check(r, c); e != want || checkOf(r, c) != want {
			t.Fatalf("%s: Check of votes of %v: %v, and %v by the words; want %v", why, numbersOf(c.Votes), e, checkOf(r, c), want)
		}
	}
	if !reflect.DeepEqual(r, register) || !same(c, given) {
		t.Fatalf("%s: what was handed in was changed", why)
	}
}

// holdSigned wants that answer of Signed, twice.
func holdSigned(t *testing.T, r api.Register, v api.Vote, want api.Errno, why string) {
	t.Helper()
	register, given := cloneRegister(r), cloneVotes([]api.Vote{v})
	for range 2 {
		if e := Signed(r, v); e != want {
			t.Errorf("%s: Signed of %d's vote: %v; want %v", why, v.Validator, e, want)
		}
	}
	if !reflect.DeepEqual(r, register) || !sameVote(v, given[0]) {
		t.Errorf("%s: what was handed in was changed", why)
	}
}

func shuffle[T any](source *rand.Rand, l []T) {
	source.Shuffle(len(l), func(i, j int) { l[i], l[j] = l[j], l[i] })
}

// subsets are all choices of some numbers, in order.
func subsets(n int) [][]int {
	var all [][]int
	for mask := range 1 << n {
		var l []int
		for i := range n {
			if mask>>i&1 == 1 {
				l = append(l, i+1)
			}
		}
		all = append(all, l)
	}
	return all
}
