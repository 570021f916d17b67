package cert

import (
	"bytes"
	"math/rand/v2"
	"slices"
	"testing"

	"landmark/api"
)

// holdBytes wants the bytes of a certificate, by the words, and of them it again.
func holdBytes(t *testing.T, c api.Cert) []byte {
	t.Helper()
	given := cloneCert(c)
	want := bytesOf(c.Link, len(c.Votes), c.Votes...)
	for range 2 {
		b, e := Bytes(c)
		if e != api.OK || !bytes.Equal(b, want) {
			t.Fatalf("Bytes of votes of %v: %v\n%x; want\n%x", numbersOf(c.Votes), e, b, want)
		}
		if d, e := Of(b); e != api.OK || !same(d, c) || !Same(d, c) {
			t.Fatalf("Of of the bytes of votes of %v: %v, votes of %v", numbersOf(c.Votes), e, numbersOf(d.Votes))
		}
	}
	if !same(c, given) {
		t.Fatal("what was handed in was changed")
	}
	return want
}

// holdOf wants of Of what the words tell of bytes.
func holdOf(t *testing.T, b []byte, why string) bool {
	t.Helper()
	given := bytes.Clone(b)
	want, is := certOf(b)
	c, e := Of(b)
	switch {
	case is && (e != api.OK || !same(c, want)):
		t.Fatalf("%s: Of: %v, votes of %v; want votes of %v", why, e, numbersOf(c.Votes), numbersOf(want.Votes))
	case !is && (e != api.ErrBytes || !isNone(c)):
		t.Fatalf("%s: Of: %v, votes of %v; want ErrBytes", why, e, numbersOf(c.Votes))
	}
	if !bytes.Equal(b, given) {
		t.Fatalf("%s: what was handed in was changed", why)
	}
	if is {
		holdBytes(t, want)
	}
	return is
}

// wantNoCert wants ErrBytes of bytes.
func wantNoCert(t *testing.T, b []byte, why string) {
	t.Helper()
	if holdOf(t, b, why) {
		t.Fatalf("%s: some certificate's", why)
	}
}

// withSigs is a certificate of votes with signatures of such sizes.
func withSigs(l api.Link, sizes ...int) api.Cert {
	c := unsigned(l, numbersTo(len(sizes))...)
	for i, size := range sizes {
		c.Votes[i].Sig = bytes.Repeat([]byte{byte(i + 1)}, size)
	}
	return c
}

// P15.3: bytes of one vote, written out.
func TestBytesWritten(t *testing.T) {
	l := api.Link{Source: api.Point{Epoch: 258, Name: allOf(7)}, Target: api.Point{Epoch: 1 << 62, Name: allOf(8)}}
	v := changed(bare(9, l), func(v *api.Vote) { v.Sig = []byte{3, 4, 5} })
	want := slices.Concat(
		[]byte{0, 0, 0, 0, 0, 0, 1, 2}, bytes.Repeat([]byte{7}, 32), []byte{64, 0, 0, 0, 0, 0, 0, 0}, bytes.Repeat([]byte{8}, 32), []byte{1},
		[]byte{0, 86, 9}, []byte{0, 0, 0, 0, 0, 0, 1, 2}, bytes.Repeat([]byte{7}, 32), []byte{64, 0, 0, 0, 0, 0, 0, 0}, bytes.Repeat([]byte{8}, 32), []byte{0, 3, 3, 4, 5})
	if b := holdBytes(t, api.Cert{Link: l, Votes: []api.Vote{v}}); !bytes.Equal(b, want) {
		t.Errorf("%x", b)
	}
}

// P15.3: so many votes as may be; signatures of no byte, and of as many as may be, and where a vote's bytes need a second byte to be counted; epochs at the edges.
func TestBytes(t *testing.T) {
	l := ordinary()
	if b := holdBytes(t, cert(l, 1, 3)); len(b) != 81+2*(2+83+1216) {
		t.Error(len(b))
	}
	for n := 1; n <= 64; n++ {
		if b := holdBytes(t, unsigned(l, numbersTo(n)...)); len(b) != 81+n*88 {
			t.Error(n, len(b))
		}
		holdBytes(t, unsigned(l, n))
		holdBytes(t, unsigned(l, numbersTo(64)[n-1:]...))
	}
	holdBytes(t, cert(l, numbersTo(64)...))
	for _, size := range []int{0, 1, 171, 172, 173, 174, 255, 256, 257, 428, 429, 1216, 4095, 4096} {
		if b := holdBytes(t, withSigs(l, size)); len(b) != 81+2+83+size {
			t.Error(size, len(b))
		}
		holdBytes(t, withSigs(l, 3, size, 0, size))
	}
	if b := holdBytes(t, withSigs(l, slices.Repeat([]int{4096}, 64)...)); len(b) != 81+64*(2+83+4096) {
		t.Error(len(b))
	}
	for _, epoch := range []uint64{0, 1, 255, 256, 1<<32 + 1, mostEpoch - 1, mostEpoch} {
		for _, other := range []uint64{0, 6, mostEpoch} {
			holdBytes(t, unsigned(api.Link{Source: at(epoch), Target: api.Point{Epoch: other, Name: allOf(255)}}, 1, 64))
		}
	}
	holdBytes(t, unsigned(api.Link{}, 1))
}

// P15.3: of none, and each beginning of right bytes; right bytes with one more, and with more.
func TestOfCut(t *testing.T) {
	l := ordinary()
	wantNoCert(t, nil, "nil")
	wantNoCert(t, []byte{}, "no bytes")
	for _, c := range []api.Cert{unsigned(l, 1), withSigs(l, 0), withSigs(l, 3, 0, 300), cert(l, 1, 2), unsigned(l, numbersTo(64)...)} {
		b := holdBytes(t, c)
		for n := range b {
			wantNoCert(t, b[:n], "a beginning")
		}
		for x := range 256 {
			wantNoCert(t, append(bytes.Clone(b), byte(x)), "one more")
		}
		wantNoCert(t, slices.Concat(b, b), "twice")
		wantNoCert(t, slices.Concat(b, b[81:]), "its votes twice")
		wantNoCert(t, b[1:], "without the first byte")
		wantNoCert(t, append([]byte{0}, b...), "one more ahead")
	}
}

// P15.3: right bytes with each byte changed to each other one.
func TestOfChanged(t *testing.T) {
	l := ordinary()
	count := map[bool]int{}
	for _, c := range []api.Cert{withSigs(l, 3), withSigs(l, 0, 2), unsigned(api.Link{Source: at(1), Target: at(mostEpoch)}, 63)} {
		b := holdBytes(t, c)
		for i := range b {
			for x := 1; x < 256; x++ {
				b[i] ^= byte(x)
				count[holdOf(t, b, "one byte changed")]++
				b[i] ^= byte(x)
			}
		}
	}
	if count[true] < 1000 || count[false] < 100000 {
		t.Error(count)
	}
	// A signature's own bytes are any: others are another certificate's.
	b := holdBytes(t, cert(l, 1, 2))
	b[len(b)-1] ^= 1
	if c, e := Of(b); e != api.OK || Same(c, cert(l, 1, 2)) || Check(register(1, 1), c) != api.ErrSig {
		t.Error(e)
	}
}

// P15.3: another count than the votes that stand there: none, fewer, more, above 64.
func TestOfCount(t *testing.T) {
	l := ordinary()
	wantNoCert(t, bytesOf(l, 0), "no votes")
	wantNoCert(t, bytesOf(l, 1), "no votes, and a count of one")
	for _, there := range []int{1, 2, 3, 63, 64, 65, 66, 127, 128, 200, 255} {
		votes := unsigned(l, numbersTo(there)...).Votes
		for n := range 256 {
			if is := holdOf(t, bytesOf(l, n, votes...), "a count"); is != (n == there && there <= 64) {
				t.Errorf("%d votes, and a count of %d: %v", there, n, is)
			}
		}
	}
	// The count of 256 votes is none that has room.
	wantNoCert(t, bytesOf(l, 256, unsigned(l, numbersTo(255)...).Votes...), "256 votes")
}

// P15.3: votes of another link, falling, twice, and such as may not be, written out.
func TestOfWrongVotes(t *testing.T) {
	l := ordinary()
	written := func(c api.Cert) []byte { return bytesOf(c.Link, len(c.Votes), c.Votes...) }
	for part, change := range partChanges() {
		other := changed(l, change)
		for i := range 3 {
			c := unsigned(l, 1, 2, 3)
			c.Votes[i].Source, c.Votes[i].Target = other.Source, other.Target
			wantNoCert(t, written(c), part)
		}
		wantNoCert(t, bytesOf(other, 3, unsigned(l, 1, 2, 3).Votes...), part+", of all")
	}
	wantNoCert(t, bytesOf(api.Link{Source: l.Target, Target: l.Source}, 1, bare(1, l)), "votes the other way round")
	for _, numbers := range [][]int{{2, 1}, {1, 1}, {1, 2, 2}, {1, 1, 2}, {1, 3, 2}, {3, 1, 2}, {64, 64}, {64, 1}, {0}, {0, 1}, {65}, {1, 65}, {255}, {1, 128}} {
		wantNoCert(t, written(unsigned(l, numbers...)), "numbers")
	}
	for _, wrong := range wrongLinks() {
		wantNoCert(t, written(unsigned(wrong, 1, 2)), "a point that may not be")
		wantNoCert(t, bytesOf(wrong, 2, unsigned(l, 1, 2).Votes...), "a point that may not be, of the certificate")
		wantNoCert(t, bytesOf(l, 2, unsigned(wrong, 1, 2).Votes...), "a point that may not be, of the votes")
	}
	for _, size := range []int{4097, 5000, 65535 - 83} {
		wantNoCert(t, written(withSigs(l, 3, size)), "too long a signature")
	}
	// A certificate that says noughts, where a point that may not be stands.
	wantNoCert(t, bytesOf(api.Link{Source: at(mostEpoch + 1)}, 1, bare(1, api.Link{})), "a zero link's votes")
}

// P15.3: a vote's own count of bytes is another one, and that of its signature with it, or not.
func TestOfVoteSize(t *testing.T) {
	l := ordinary()
	b := holdBytes(t, withSigs(l, 3, 5))
	// The first vote's bytes stand from 81 on: two of their count, a validator, two points, two of the signature's count.
	for _, more := range []int{-86, -83, -3, -1, 1, 2, 5, 88, 90, 256, 1 << 15} {
		wrong := bytes.Clone(b)
		size := 86 + more
		wrong[81], wrong[82] = byte(size>>8), byte(size)
		wantNoCert(t, wrong, "a vote's count")
		sig := 3 + more
		wrong[83+81], wrong[83+82] = byte(sig>>8), byte(sig)
		holdOf(t, wrong, "a vote's count, and its signature's")
		wrong[81], wrong[82] = 0, 86
		wantNoCert(t, wrong, "a signature's count")
	}
	// A byte between two votes belongs to none.
	for _, at := range []int{81, 83, 83 + 86, 83 + 86 + 2} {
		wantNoCert(t, slices.Insert(bytes.Clone(b), at, 0), "a byte in between")
	}
	// A vote's bytes, and one more, that the count says, too.
	long := slices.Insert(bytes.Clone(b), 83+86, 0)
	long[82]++
	wantNoCert(t, long, "a vote's bytes, and one more")
	empty := append(bytesOf(l, 2, withSigs(l, 3).Votes...), 0, 0)
	wantNoCert(t, empty, "a vote of no bytes")
	wantNoCert(t, append(bytesOf(l, 1), 0, 0), "a vote of no bytes alone")
}

// P15.3: bytes by chance, and right bytes jumbled.
func TestOfByChance(t *testing.T) {
	source := rand.New(rand.NewPCG(15, 3))
	count := map[bool]int{}
	for range 20000 {
		b := holdBytes(t, someCert(source))
		for range source.IntN(3) {
			from, to := source.IntN(len(b)+1), source.IntN(len(b)+1)
			switch source.IntN(4) {
			case 0:
				b = slices.Delete(b, min(from, to), max(from, to))
			case 1:
				b = slices.Insert(b, from, bytes.Clone(b[min(from, to):max(from, to)])...)
			case 2:
				b = append(b, b[min(from, to):max(from, to)]...)
			default:
				b = append(b, 0)
				b[from] ^= byte(source.Uint32())
				b = b[:len(b)-1]
			}
		}
		count[holdOf(t, b, "jumbled")]++
	}
	if count[true] < 2000 || count[false] < 2000 {
		t.Error(count)
	}
	for n := range 3000 {
		b := make([]byte, n)
		for i := range b {
			b[i] = byte(source.Uint32())
		}
		wantNoCert(t, b, "by chance")
		wantNoCert(t, make([]byte, n), "noughts")
	}
}

// someCert is one that may be told, of signatures that are none.
func someCert(source *rand.Rand) api.Cert {
	point := func() api.Point {
		return api.Point{Epoch: []uint64{source.Uint64N(4), source.Uint64N(mostEpoch + 1), mostEpoch}[source.IntN(3)], Name: allOf(byte(source.IntN(3)))}
	}
	c := api.Cert{Link: api.Link{Source: point(), Target: point()}}
	for n := 1 + source.IntN(4); n <= 64; n += 1 + source.IntN(40) {
		c.Votes = append(c.Votes, changed(bare(n, c.Link), func(v *api.Vote) { v.Sig = make([]byte, source.IntN(5)) }))
	}
	return c
}
