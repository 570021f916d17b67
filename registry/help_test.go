package registry

import (
	"bytes"
	"fmt"
	"math/big"
	"math/rand/v2"
	"reflect"
	"slices"
	"strconv"
	"strings"
	"testing"

	"landmark/api"
	"landmark/codec"
)

// The model: the chapter's words written anew.

// modelMay is whether a register may be: each number's place in the lines is counted.
func modelMay(r api.Register) bool {
	times := map[int][2]int{}
	for line, l := range [][]int{r.Coming, r.Going} {
		for _, n := range l {
			count := times[n]
			count[line]++
			times[n] = count
		}
	}
	keys, active := map[api.Hash]int{}, 0
	for i, m := range r.Members {
		var want [2]int
		switch m.Status {
		case 1:
			want[0] = 1
		case 2:
			active++
		case 3:
			want[1] = 1
		case 4:
		default:
			return false
		}
		if times[i+1] != want || m.Stake == 0 || m.Stake > 4294967296 {
			return false
		}
		delete(times, i+1)
		keys[m.Key]++
	}
	return len(times) == 0 && active > 0 && len(r.Members) <= 64 && len(keys) == len(r.Members) && r.Churn >= 1 && r.Churn <= 4611686018427387904
}

// modelTurn is how many stand first in a line and turn: the greatest number of those whose stakes, in all, are not above the bound.
func modelTurn(r api.Register, line []int, epochs uint64) int {
	bound := new(big.Int).Mul(new(big.Int).SetUint64(r.Churn), new(big.Int).SetUint64(epochs))
	if most := new(big.Int).Lsh(big.NewInt(1), 62); bound.Cmp(most) > 0 {
		bound = most
	}
	for count := len(line); count > 0; count-- {
		sum := new(big.Int)
		for _, n := range line[:count] {
			sum.Add(sum, new(big.Int).SetUint64(r.Members[n-1].Stake))
		}
		if sum.Cmp(bound) <= 0 {
			return count
		}
	}
	return 0
}

// modelNext is the register behind a header, or the error.
func modelNext(r api.Register, h api.Header, parent uint64) (api.Register, api.Errno) {
	if !modelMay(r) || !codec.MayHeader(h) || h.Epoch <= parent {
		return api.Register{}, api.ErrArg
	}
	coming, going := modelTurn(r, r.Coming, h.Epoch-parent), modelTurn(r, r.Going, h.Epoch-parent)
	r = copyOf(r)
	for _, n := range r.Coming[:coming] {
		r.Members[n-1].Status = 2
	}
	for _, n := range r.Going[:going] {
		r.Members[n-1].Status = 4
	}
	r.Coming, r.Going = r.Coming[coming:], r.Going[going:]
	for _, op := range h.Ops {
		if e := modelOperate(&r, op); e != api.OK {
			return api.Register{}, e
		}
	}
	return r, api.OK
}

func modelOperate(r *api.Register, op api.HeaderOp) api.Errno {
	active, isKeyKnown := 0, false
	for _, m := range r.Members {
		if m.Status == 2 {
			active++
		}
		isKeyKnown = isKeyKnown || m.Key == op.Key
	}
	var m *api.Member
	if op.Validator >= 1 && op.Validator <= len(r.Members) {
		m = &r.Members[op.Validator-1]
	}
	goes := m != nil && m.Status == 2 && active >= 2
	switch {
	case op.Kind == 1 && (isKeyKnown || op.Stake > r.Churn || op.Stake > 4294967296 || op.Stake == 0):
		return api.ErrOp
	case op.Kind == 1 && len(r.Members) == 64:
		return api.ErrFull
	case op.Kind == 1:
		r.Members = append(r.Members, api.Member{Key: op.Key, Stake: op.Stake, Status: 1})
		r.Coming = append(r.Coming, len(r.Members))
		return api.OK
	case op.Kind == 2 && !goes, op.Kind == 3 && (m == nil || m.Marked || m.Status == 1 || m.Status == 4):
		return api.ErrOp
	}
	m.Marked = m.Marked || op.Kind == 3
	if goes {
		m.Status = 3
		r.Going = append(r.Going, op.Validator)
	}
	return api.OK
}

// modelVotes are the active ones, by number.
func modelVotes(r api.Register) map[int]api.Member {
	l := map[int]api.Member{}
	for i, m := range r.Members {
		if m.Status == 2 || m.Status == 3 {
			l[i+1] = m
		}
	}
	return l
}

// Registers and headers to try it on.

// statuses are the letters of them, by their numbers.
const statuses = "?cagx"

// register is one of members, each told by its status' letter, its stake, and a '!' if it is marked; their keys are keyOf, the lines are by numbers.
func register(churn uint64, members string) api.Register {
	r := api.Register{Churn: churn}
	for i, text := range strings.Fields(members) {
		digits, isMarked := strings.CutSuffix(text[1:], "!")
		stake, err := strconv.ParseUint(digits, 10, 64)
		status := api.MemberStatus(strings.IndexByte(statuses, text[0]))
		if err != nil || status < 1 {
			panic(text)
		}
		r.Members = append(r.Members, api.Member{Key: keyOf(i + 1), Stake: stake, Status: status, Marked: isMarked})
	}
	return lineUp(r)
}

// lineUp puts who comes, and who goes, in lines by numbers.
func lineUp(r api.Register) api.Register {
	r.Coming, r.Going = nil, nil
	for i, m := range r.Members {
		switch m.Status {
		case 1:
			r.Coming = append(r.Coming, i+1)
		case 3:
			r.Going = append(r.Going, i+1)
		}
	}
	return r
}

// told is a register as a text: its members as register has them, and the numbers that come, and go.
func told(r api.Register) string {
	var l []string
	for _, m := range r.Members {
		text := fmt.Sprint(int(m.Status)) + "?"
		if 1 <= m.Status && m.Status <= 4 {
			text = string(statuses[m.Status])
		}
		text += strconv.FormatUint(m.Stake, 10)
		if m.Marked {
			text += "!"
		}
		l = append(l, text)
	}
	return fmt.Sprint(strings.Join(l, " "), r.Coming, r.Going)
}

// keyOf is a number's key: unlike others, and in its last byte.
func keyOf(n int) api.Hash { return api.Hash{0: 7, 31: byte(n)} }

// lined is a register with other lines.
func lined(r api.Register, coming, going []int) api.Register {
	r.Coming, r.Going = coming, going
	return r
}

func depositOf(n int, stake uint64) api.HeaderOp {
	return api.HeaderOp{Kind: api.OpDeposit, Key: keyOf(n), Stake: stake}
}

func exitOf(n int) api.HeaderOp { return api.HeaderOp{Kind: api.OpExit, Validator: n} }

func slashOf(n int) api.HeaderOp {
	return api.HeaderOp{Kind: api.OpSlash, Validator: n, Evidence: []api.Vote{voteOf(1), voteOf(2)}}
}

func voteOf(n int) api.Vote {
	return api.Vote{Validator: n, Target: api.Point{Epoch: 6, Name: api.Hash{8}}, Sig: []byte("some sig")}
}

func ops(l ...api.HeaderOp) []api.HeaderOp { return l }

// copyOf is a register in new memory.
func copyOf(r api.Register) api.Register {
	r.Members, r.Coming, r.Going = slices.Clone(r.Members), slices.Clone(r.Coming), slices.Clone(r.Going)
	return r
}

// same holds registers against each other; nil and empty lists are one.
func same(a, b api.Register) bool {
	return slices.Equal(a.Members, b.Members) && slices.Equal(a.Coming, b.Coming) && slices.Equal(a.Going, b.Going) && a.Churn == b.Churn
}

// spoil changes all that a register points to, and what lies behind it.
func spoil(r api.Register) {
	for _, l := range [][]int{r.Coming, r.Going} {
		for i := range l[:cap(l)] {
			l[:cap(l)][i] = -7
		}
	}
	for i := range r.Members[:cap(r.Members)] {
		r.Members[:cap(r.Members)][i] = api.Member{Key: api.Hash{9}, Stake: 3, Status: 9, Marked: true}
	}
}

// give asks for the register behind a header, twice, and wants what the model tells; nothing handed in is changed, and what is answered shares nothing with it.
func give(t *testing.T, r api.Register, h api.Header, parent uint64) (api.Register, api.Errno) {
	t.Helper()
	want, code := modelNext(r, h, parent)
	before, bytesBefore := copyOf(r), headerBytes(h)
	for range 2 {
		got, e := Next(r, h, parent)
		if e != code || !same(got, want) {
			t.Fatalf("Next of %s, churn %d, from %d to %d, %v:\n%s, %v; want\n%s, %v", told(before), r.Churn, parent, h.Epoch, h.Ops, told(got), e, told(want), code)
		}
		if e != api.OK && !reflect.DeepEqual(got, api.Register{}) {
			t.Fatal("something beside an error")
		}
		if e == api.OK && !May(got) {
			t.Fatalf("a register that may not be: %s", told(got))
		}
		spoil(got)
		if !same(r, before) || !bytes.Equal(headerBytes(h), bytesBefore) {
			t.Fatalf("Next has changed what was handed in, or shares it: %s; was %s", told(r), told(before))
		}
	}
	return want, code
}

func headerBytes(h api.Header) []byte {
	b, _ := codec.HeaderBytes(h)
	return b
}

// next is give of a header so many epochs behind its parent.
func next(t *testing.T, r api.Register, epochs uint64, l ...api.HeaderOp) (api.Register, api.Errno) {
	t.Helper()
	return give(t, r, api.Header{Parent: api.Hash{4}, Epoch: 5 + epochs, Ops: l}, 5)
}

// holdLooks wants all looks at a register to tell what the model tells, whether it may be or not.
func holdLooks(t *testing.T, r api.Register) {
	t.Helper()
	before, active, total := copyOf(r), modelVotes(r), new(big.Int)
	for n := -2; n <= len(r.Members)+2; n++ {
		m, isActive := active[n]
		if Active(r, n) != isActive || Stake(r, n) != m.Stake {
			t.Errorf("%d of %s: %v, %d", n, told(r), Active(r, n), Stake(r, n))
		}
		total.Add(total, new(big.Int).SetUint64(m.Stake))
	}
	if got := Total(r); got != total.And(total, new(big.Int).SetUint64(1<<64-1)).Uint64() {
		t.Errorf("Total of %s: %d; want %v", told(r), got, total)
	}
	first := map[api.Hash]int{}
	for i, m := range r.Members {
		if first[m.Key] == 0 {
			first[m.Key] = i + 1
		}
		if got := Find(r, m.Key); got != first[m.Key] {
			t.Errorf("Find of the key of %d: %d; want %d", i+1, got, first[m.Key])
		}
	}
	if May(r) != modelMay(r) {
		t.Errorf("May of %s: %v", told(r), May(r))
	}
	if !same(r, before) {
		t.Error("a look has changed the register")
	}
}

// Chance, from a seed.

// someRegister is mostly one that may be, of members of all statuses.
func someRegister(source *rand.Rand) api.Register {
	r := api.Register{Churn: 1 + source.Uint64N(30)}
	for i := range 1 + source.IntN(9) {
		m := api.Member{Key: keyOf(i + 1), Stake: 1 + source.Uint64N(20), Status: api.MemberStatus(1 + source.IntN(4)), Marked: source.IntN(3) == 0}
		if i == 0 {
			m.Status = api.MemberActive
		}
		r.Members = append(r.Members, m)
	}
	shuffle(source, r.Members)
	r = lineUp(r)
	shuffle(source, r.Coming)
	shuffle(source, r.Going)
	return r
}

func shuffle[T any](source *rand.Rand, l []T) {
	source.Shuffle(len(l), func(i, j int) { l[i], l[j] = l[j], l[i] })
}

// someOps are operations of which some are refused.
func someOps(source *rand.Rand, r api.Register, most int) []api.HeaderOp {
	var l []api.HeaderOp
	for i := range source.IntN(most + 1) {
		n := 1 + source.IntN(len(r.Members)+1)
		switch source.IntN(3) {
		case 0:
			l = append(l, depositOf(len(r.Members)+1+i-source.IntN(12)/11, 1+source.Uint64N(r.Churn+1)))
		case 1:
			l = append(l, exitOf(n))
		default:
			l = append(l, slashOf(n))
		}
	}
	return l
}
