package ffg

import (
	"math/rand/v2"
	"slices"
	"testing"

	"landmark/api"
)

// told is all that a gadget says of what is justified, and final.
type told struct {
	justified, final []api.Point
	highest, best    api.Point
}

func toldBy(g *Gadget) told { return told{g.AllJustified(), g.AllFinal(), g.Highest(), g.Best()} }

func (x told) same(y told) bool {
	return slices.Equal(x.justified, y.justified) && slices.Equal(x.final, y.final) && x.highest == y.highest && x.best == y.best
}

// shapes are handfuls of links, each by what it is.
func shapes() map[string][]api.Link {
	return map[string][]api.Link{
		"a line":                     {from(5, 6), from(6, 7), from(7, 9), from(9, 10), from(10, 11)},
		"round one another":          {from(5, 8), from(5, 6), from(6, 8), from(6, 7), from(7, 8), from(8, 9)},
		"two targets of one epoch":   {from(5, 6), link(at(5), named(6, 2)), link(at(6), named(7, 1)), link(named(6, 2), named(7, 2)), link(at(6), named(7, 2))},
		"two sources of one target":  {from(5, 6), link(at(5), named(7, 2)), from(6, 8), link(named(7, 2), at(8)), from(8, 9)},
		"some that nothing leads to": {from(5, 7), from(6, 7), from(7, 8), from(4, 5), link(named(5, 2), at(6))},
		"nobody":                     {from(6, 7), from(7, 8), from(8, 9), from(3, 5), from(4, 7)},
	}
}

// P13.2, P13.4: a handful of links in every order: behind each of them what the words say, and behind all of them the same.
func TestEveryOrder(t *testing.T) {
	for name, links := range shapes() {
		t.Run(name, func(t *testing.T) {
			count := 0
			var first told
			inAllOrders(links, func(l []api.Link) {
				o := newPair(t, at(5))
				for _, one := range l {
					o.tell(one)
					o.holdWhole(o.m.justified(), o.m.final())
				}
				o.hold()
				if count == 0 {
					first = toldBy(o.g)
				}
				if got := toldBy(o.g); !got.same(first) {
					t.Fatalf("%v; was %v", got, first)
				}
				count++
			})
			if count != 120 && count != 720 {
				t.Error(count)
			}
		})
	}
}

// P13.4: many links by chance in other orders, also from their end to their beginning: the same is justified, and final.
func TestOrders(t *testing.T) {
	for seed := range uint64(12) {
		source := rand.New(rand.NewPCG(132, seed))
		o := newPair(t, at(5))
		for range 60 {
			o.give(some(source))
		}
		o.hold()
		want := toldBy(o.g)
		links := slices.Clone(o.m.links)
		slices.Reverse(links)
		for range 12 {
			other := newPair(t, at(5))
			other.tell(links...)
			if got := toldBy(other.g); !got.same(want) {
				t.Fatalf("seed %d: %v; was %v", seed, got, want)
			}
			other.hold()
			source.Shuffle(len(links), func(i, j int) { links[i], links[j] = links[j], links[i] })
		}
	}
}

// P13.4: what is justified, and final, only grows, whatever is told; and each justified one has a path from the anchor.
func TestOnlyGrows(t *testing.T) {
	for seed := range uint64(20) {
		source := rand.New(rand.NewPCG(133, seed))
		o := newPair(t, at(5))
		for range 60 {
			before := toldBy(o.g)
			e := o.give(some(source))
			after := toldBy(o.g)
			if e != api.OK && !after.same(before) {
				t.Fatal("what was refused has changed something")
			}
			for _, p := range before.justified {
				if !slices.Contains(after.justified, p) {
					t.Fatal("justified no more:", p)
				}
			}
			for _, p := range before.final {
				if !slices.Contains(after.final, p) {
					t.Fatal("final no more:", p)
				}
			}
			for _, p := range after.justified {
				if !o.m.hasPath(p) {
					t.Fatal("without a path:", p)
				}
			}
			for _, p := range after.final {
				if !slices.Contains(after.justified, p) {
					t.Fatal("final, and not justified:", p)
				}
			}
		}
		for _, p := range o.asked() {
			if o.g.Justified(p) != o.m.hasPath(p) {
				t.Fatal("a path is one that is justified:", p)
			}
		}
	}
}

// many is how many links there are where votes are as many as they may be.
const many = api.MaxVotes

// P13.2, P13.4: a chain of links, told from its end to its beginning: all of it is justified by the one that comes last, none of it ahead of that.
func TestChainByLast(t *testing.T) {
	o, e := New(at(5))
	if e != api.OK {
		t.Fatal(e)
	}
	for i := uint64(many); i > 0; i-- {
		if len(o.AllJustified()) != 1 {
			t.Fatal("ahead of the last link")
		}
		if e := o.Strong(from(4+i, 5+i)); e != api.OK {
			t.Fatal(i, e)
		}
	}
	holdLine(t, o, many)
}

// holdLine wants a line of links from 5 on, each to the next epoch: all justified, all but the last one final.
func holdLine(t *testing.T, g *Gadget, n uint64) {
	t.Helper()
	known, sure := g.AllJustified(), g.AllFinal()
	if uint64(len(known)) != n+1 || uint64(len(sure)) != n {
		t.Fatal(len(known), len(sure))
	}
	for i, p := range known {
		if p != at(5+uint64(i)) || i < len(sure) && p != sure[i] {
			t.Fatal("at", i, p)
		}
	}
	if g.Highest() != at(5+n) || g.Best() != at(4+n) {
		t.Error(g.Highest(), g.Best())
	}
}

// P13.2, P13.4: a chain of links, told from its beginning to its end: each link justifies one.
func TestChainByFirst(t *testing.T) {
	g, e := New(at(5))
	if e != api.OK {
		t.Fatal(e)
	}
	for i := range uint64(many) {
		if e := g.Strong(from(5+i, 6+i)); e != api.OK {
			t.Fatal(i, e)
		}
		if !g.Justified(at(6+i)) || !g.Final(at(5+i)) || g.Final(at(6+i)) {
			t.Fatal("at", i)
		}
	}
	holdLine(t, g, many)
}

// P13.2: very many links from one source that is justified last, and to one target; a link of a source of many that was told is refused.
func TestWideByLast(t *testing.T) {
	g, e := New(at(5))
	if e != api.OK {
		t.Fatal(e)
	}
	for i := range uint64(many) {
		if e := g.Strong(from(7, 8+i)); e != api.OK {
			t.Fatal(i, e)
		}
		if e := g.Strong(from(7, 8+i)); e != api.ErrExists {
			t.Fatal(i, e)
		}
	}
	for i := range uint64(many) {
		if e := g.Strong(from(8+i, 8+many)); e != api.OK {
			t.Fatal(i, e)
		}
	}
	if e := g.Strong(from(5, 7)); e != api.OK || len(g.AllJustified()) != many+3 || g.Highest() != at(8+many) || g.Best() != at(7+many) || !slices.Equal(g.AllFinal(), []api.Point{at(5), at(7), at(7 + many)}) {
		t.Error(e, len(g.AllJustified()), g.Highest(), g.AllFinal())
	}
}

// P13.2, P13.4: what is justified by one link told last, in halves: each half's own beginning is what it waits for.
func TestByHalves(t *testing.T) {
	o := newPair(t, at(5))
	for _, l := range []api.Link{from(20, 21), from(21, 23), from(10, 11), from(11, 12), link(at(12), named(13, 2)), link(named(13, 2), at(14)), from(23, 24)} {
		o.tell(l)
		o.hold()
	}
	o.tell(from(14, 20))
	o.hold()
	if len(o.g.AllJustified()) != 1 {
		t.Error(o.g.AllJustified())
	}
	o.tell(from(5, 10))
	o.hold()
	if len(o.g.AllJustified()) != 10 || o.g.Best() != at(23) {
		t.Error(o.g.AllJustified(), o.g.Best())
	}
}
