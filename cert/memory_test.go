package cert

import (
	"bytes"
	"reflect"
	"slices"
	"testing"
	"time"

	"landmark/api"
)

// spoil changes a signature, and what lies behind it where it has room.
func spoil(b []byte) {
	b = b[:cap(b)]
	for i := range b {
		b[i] ^= 255
	}
}

// spoilCert changes all that a certificate points to.
func spoilCert(c api.Cert) {
	for i := range c.Votes {
		spoil(c.Votes[i].Sig)
	}
	for i := range c.Votes[:cap(c.Votes)] {
		c.Votes[:cap(c.Votes)][i] = api.Vote{Validator: 9}
	}
}

// roomy are votes with room behind them, and behind their signatures.
func roomy(l api.Link, numbers ...int) []api.Vote {
	all := append(make([]api.Vote, 0, 20), votes(l, numbers...)...)
	for i := range all {
		all[i].Sig = append(make([]byte, 0, 4000), all[i].Sig...)
	}
	return all
}

// P15.1, P15.3: what is handed in is not changed, neither it nor what lies behind it.
func TestHandedIn(t *testing.T) {
	l := ordinary()
	r := mixed()
	r.Members = append(make([]api.Member, 0, 20), r.Members...)
	r.Coming, r.Going = append(make([]int, 0, 9), r.Coming...), append(make([]int, 0, 9), r.Going...)
	register := cloneRegister(r)
	given := append(roomy(l, 3, 1, 2, 1), vote(4, l))
	want := cloneVotes(given)
	c := api.Cert{Link: l, Votes: roomy(l, 1, 2, 3)}
	b := append(make([]byte, 0, 9999), bytesOf(l, 3, c.Votes...)...)
	text := bytes.Clone(b)
	Make(r, l, given...)
	May(c)
	Check(r, c)
	Stake(r, c)
	Signed(r, given[0])
	Bytes(c)
	Of(b)
	Same(c, c)
	if !reflect.DeepEqual(r, register) || !slices.EqualFunc(given, want, sameVote) || !same(c, cert(l, 1, 2, 3)) || !bytes.Equal(b, text) {
		t.Error("what was handed in was changed")
	}
	if !reflect.DeepEqual(r.Members[:7][6], api.Member{}) || r.Coming[:2][1] != 0 || r.Going[:2][1] != 0 || !sameVote(given[:6][5], api.Vote{}) || !sameVote(c.Votes[:4][3], api.Vote{}) || !bytes.Equal(b[len(b):cap(b)], make([]byte, cap(b)-len(b))) {
		t.Error("what lies behind it was changed")
	}
	for _, v := range slices.Concat(given[:4], c.Votes) {
		if !bytes.Equal(v.Sig[1216:4000], make([]byte, 4000-1216)) {
			t.Error("what lies behind a signature was changed")
		}
	}
}

// P15.1: what Make tells does not hang on what was handed in, nor on another answer, and no two of its signatures are one.
func TestMakeApart(t *testing.T) {
	r, l := register(1, 1, 1), ordinary()
	given := roomy(l, 3, 1, 2)
	first, _ := Make(r, l, given...)
	second, _ := Make(r, l, given...)
	want := cert(l, 1, 2, 3)
	for i := range given {
		spoil(given[i].Sig)
		given[i] = api.Vote{}
	}
	r.Members[0] = api.Member{}
	if !same(first, want) || !same(second, want) {
		t.Error("what was answered hangs on what was handed in")
	}
	spoil(first.Votes[0].Sig)
	if !slices.EqualFunc(first.Votes[1:], want.Votes[1:], sameVote) {
		t.Error("two signatures of one answer share something")
	}
	spoilCert(first)
	if !same(second, want) {
		t.Error("two answers share something")
	}
}

// P15.1: what Make tells is changed, and neither what was handed in is, nor the next answer.
func TestMakeAnswered(t *testing.T) {
	r, l := register(1, 1, 1), ordinary()
	given := roomy(l, 2, 1)
	c, _ := Make(r, l, given...)
	spoilCert(c)
	if !slices.EqualFunc(given, votes(l, 2, 1), sameVote) || !sameVote(given[:3][2], api.Vote{}) {
		t.Error("an answer shares something with what was handed in")
	}
	wantMade(t, r, l, given, "again", 1, 2)
}

// P15.1, P15.3: of signatures that lie one behind the other in one memory, each has its own in what is answered.
func TestOneMemory(t *testing.T) {
	r, l := register(equals(20, 1)...), ordinary()
	given := votes(l, numbersTo(20)...)
	var memory []byte
	for _, v := range given {
		memory = append(memory, v.Sig...)
	}
	for i := range given {
		given[i].Sig = memory[1216*i : 1216*(i+1)]
	}
	made, e := Make(r, l, given...)
	read, f := Of(bytesOf(l, 20, given...))
	if e != api.OK || f != api.OK {
		t.Fatal(e, f)
	}
	for _, c := range []api.Cert{made, read} {
		for i := range c.Votes {
			spoil(c.Votes[i].Sig)
			if !slices.EqualFunc(c.Votes[i+1:], votes(l, numbersTo(20)[i+1:]...), sameVote) || !slices.EqualFunc(given, votes(l, numbersTo(20)...), sameVote) {
				t.Fatal("two signatures share something", i)
			}
		}
	}
}

// P15.3: bytes, and what they are, are the caller's.
func TestBytesApart(t *testing.T) {
	l := ordinary()
	c := api.Cert{Link: l, Votes: roomy(l, 1, 2)}
	first, _ := Bytes(c)
	second, _ := Bytes(c)
	want := bytes.Clone(first)
	spoil(first)
	if !bytes.Equal(second, want) || !same(c, cert(l, 1, 2)) {
		t.Error("bytes share something")
	}
	spoilCert(c)
	if !bytes.Equal(second, want) {
		t.Error("bytes hang on what was handed in")
	}
	one, _ := Of(second)
	other, _ := Of(second)
	spoil(second)
	if !same(one, cert(l, 1, 2)) {
		t.Error("what was answered hangs on what was handed in")
	}
	spoil(one.Votes[0].Sig)
	if !sameVote(one.Votes[1], vote(2, l)) {
		t.Error("two signatures of one answer share something")
	}
	spoilCert(one)
	if !same(other, cert(l, 1, 2)) || !bytes.Equal(changed(bytes.Clone(second), func(b *[]byte) { spoil(*b) })[:len(want)], want) {
		t.Error("two answers share something")
	}
}

// What many ask at once of the same is the same for each.
func TestByMany(t *testing.T) {
	r, l := mixed(), ordinary()
	given, c := votes(l, 3, 1, 2, 4), cert(l, 1, 2, 3)
	b := bytesOf(l, 3, c.Votes...)
	answers := make(chan bool)
	for range 8 {
		go func() {
			made, e := Make(r, l, given...)
			read, f := Of(b)
			text, g := Bytes(c)
			answers <- e == api.OK && f == api.OK && g == api.OK && same(made, c) && same(read, c) && bytes.Equal(text, b) && Check(r, c) == api.OK && Stake(r, c) == 700
		}()
	}
	for range 8 {
		if !<-answers {
			t.Error("an answer is another one")
		}
	}
}

// P0.6: nothing hangs, however much is given, and nothing panics.
func TestMuch(t *testing.T) {
	start := time.Now()
	r, l := register(1, 1, 1), ordinary()
	hold := func(given []api.Vote, want api.Cert, code api.Errno, why string) {
		t.Helper()
		if c, e := Make(r, l, given...); e != code || !same(c, want) {
			t.Errorf("%s: %v, votes of %v", why, e, numbersOf(c.Votes))
		}
	}
	many := slices.Repeat(votes(l, 1, 2), 200000)
	hold(append(many, vote(3, l)), cert(l, 1, 2, 3), api.OK, "many right votes")
	hold(slices.Repeat(votes(changed(l, func(l *api.Link) { l.Target.Epoch = 9 }), 1, 2, 3), 200000), api.Cert{}, api.ErrNone, "many votes of another link")
	unlike := slices.Repeat([]api.Vote{bare(-1, l), bare(1, l), bare(64, l), {}}, 100000)
	hold(append(unlike, votes(l, 1, 2)...), cert(l, 1, 2), api.OK, "many that lack something")
	long := api.Cert{Link: l, Votes: many}
	wide := api.Register{Members: make([]api.Member, 1<<20), Coming: make([]int, 1<<20), Going: make([]int, 1<<20), Churn: 1}
	if May(long) || Check(r, long) != api.ErrArg || Stake(r, long) != 0 || !Same(long, long) {
		t.Error("a long one may be told")
	}
	if b, e := Bytes(long); e != api.ErrArg || len(b) > 0 {
		t.Error(e)
	}
	if c, e := Make(wide, l, many...); e != api.ErrArg || !isNone(c) || Check(wide, cert(l, 1)) != api.ErrArg || Signed(wide, vote(1, l)) != api.ErrArg || Stake(wide, cert(l, 1)) != 0 {
		t.Error("a wide register may be")
	}
	for _, x := range []byte{0, 1, 64, 255} {
		wantNoCert(t, bytes.Repeat([]byte{x}, 1<<24), "many bytes")
	}
	if d := time.Since(start); d > 20*time.Second {
		t.Error(d)
	}
}
