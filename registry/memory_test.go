package registry

import (
	"slices"
	"testing"

	"landmark/api"
)

// What is answered is new memory, and what is handed in is not kept: First's.
func TestFirstMemory(t *testing.T) {
	a := anchorOf(3)
	r, e := First(a)
	if e != api.OK {
		t.Fatal(e)
	}
	want := copyOf(r)
	for i := range a.Validators {
		a.Validators[i] = api.Validator{}
	}
	if !same(r, want) {
		t.Error("the register has changed with the anchor")
	}
	a = anchorOf(3)
	before := slices.Clone(a.Validators)
	spoil(r)
	if again, _ := First(a); !same(again, want) || !slices.Equal(a.Validators, before) {
		t.Error("the anchor, or its register, has changed with an answer")
	}
}

// Next's: what was handed in is changed behind it.
func TestNextMemory(t *testing.T) {
	for _, l := range [][]api.HeaderOp{nil, ops(depositOf(9, 2)), ops(exitOf(1)), ops(slashOf(1), depositOf(9, 2), exitOf(2))} {
		r := register(5, "a1 a2 a3 c4 c5 g4 g5 x6")
		h := api.Header{Epoch: 6, Ops: slices.Clone(l)}
		got, e := Next(r, h, 5)
		want := copyOf(got)
		if e != api.OK {
			t.Fatal(e)
		}
		spoil(r)
		for i := range h.Ops {
			for j := range h.Ops[i].Evidence {
				clear(h.Ops[i].Evidence[j].Sig)
				h.Ops[i].Evidence[j] = api.Vote{}
			}
			h.Ops[i] = api.HeaderOp{}
		}
		if !same(got, want) {
			t.Errorf("%v: the answer has changed with what was handed in", l)
		}
	}
}

// roomy is a register whose lists have room behind them, in which there stands something.
func roomy(r api.Register) api.Register {
	r.Members = append(slices.Clone(r.Members), make([]api.Member, 9)...)[:len(r.Members)]
	r.Coming = append(slices.Clone(r.Coming), make([]int, 9)...)[:len(r.Coming)]
	r.Going = append(slices.Clone(r.Going), make([]int, 9)...)[:len(r.Going)]
	return r
}

// Next's: lists with room behind them are not written on there either, and each answer is its own.
func TestNextRoom(t *testing.T) {
	r := roomy(register(5, "a1 a2 a3 c4 c5 g4 g5 x6"))
	one, e := Next(r, api.Header{Epoch: 6, Ops: ops(depositOf(9, 2), exitOf(1))}, 5)
	two, f := Next(r, api.Header{Epoch: 6, Ops: ops(depositOf(70, 3), slashOf(2))}, 5)
	if e != api.OK || f != api.OK || told(one) != "g1 a2 a3 a4 c5 x4 g5 x6 c2[5 9] [7 1]" || told(two) != "a1 g2! a3 a4 c5 x4 g5 x6 c3[5 9] [7 2]" {
		t.Error(told(one), e, told(two), f)
	}
	if slices.Contains(r.Coming[:cap(r.Coming)], 9) || slices.Contains(r.Going[:cap(r.Going)], 1) || slices.ContainsFunc(r.Members[len(r.Members):cap(r.Members)], func(m api.Member) bool { return m.Stake > 0 }) {
		t.Error("what lies behind the lists was written on")
	}
	if !same(r, register(5, "a1 a2 a3 c4 c5 g4 g5 x6")) {
		t.Error("the register has changed:", told(r))
	}
}

// The lists of one answer share nothing.
func TestNextLists(t *testing.T) {
	r, e := Next(register(5, "a1 a2 a3 c4 c5 g4 g5 x6"), api.Header{Epoch: 6, Ops: ops(depositOf(9, 2), exitOf(1))}, 5)
	if e != api.OK {
		t.Fatal(e)
	}
	want := copyOf(r)
	for i := range r.Coming[:cap(r.Coming)] {
		r.Coming[:cap(r.Coming)][i] = -3
	}
	if !slices.Equal(r.Going, want.Going) || !slices.Equal(r.Members, want.Members) {
		t.Error("a list has changed with another one")
	}
}

// A register's value, handed on, is gone on with apart: one header's branch does not touch another one's.
func TestBranchesApart(t *testing.T) {
	r, _ := First(anchorOf(6))
	before := copyOf(r)
	one, two := r, r
	for i := range uint64(20) {
		h := api.Header{Epoch: 6 + i}
		if i < 5 {
			h.Ops = ops(exitOf(int(i)+1), depositOf(int(i)+70, i+1))
		}
		one, _ = Next(one, h, 5+i)
		h.Ops = nil
		if i%3 == 0 && i < 15 {
			h.Ops = ops(slashOf(int(i)/3 + 1))
		}
		two, _ = Next(two, h, 5+i)
	}
	if told(one) != "x1 x2 x3 x4 x5 a6 a1 a2 a3 a4 a5[] []" || told(two) != "x1! x2! x3! x4! x5! a6[] []" || !same(r, before) {
		t.Error(told(one), told(two), told(r))
	}
}
