package codec

import "landmark/api"

// Lists of what may be, at the edges that the chapter names, and of what may not be, for one reason each. The right ones are unlike each other.

func rightPoints() []api.Point {
	var l []api.Point
	for _, epoch := range rightEpochs {
		for _, name := range []api.Hash{{}, {1}, {31: 1}, allOf(255)} {
			l = append(l, api.Point{Epoch: epoch, Name: name})
		}
	}
	return l
}

func wrongPoints() []api.Point {
	var l []api.Point
	for _, epoch := range wrongEpochs {
		l = append(l, api.Point{Epoch: epoch}, api.Point{Epoch: epoch, Name: allOf(255)})
	}
	return l
}

func rightVotes() []api.Vote {
	// Of noughts but for its number; a link to itself; one that goes back: a vote may be whatever its link says.
	l := []api.Vote{{Validator: 1}, {Validator: 2, Source: vote().Target, Target: vote().Target}, {Validator: 2, Source: vote().Target, Target: vote().Source}}
	for _, n := range rightNumbers {
		l = append(l, changed(vote(), func(v *api.Vote) { v.Validator = n; v.Sig = []byte("number") }))
	}
	for _, p := range rightPoints() {
		l = append(l, changed(vote(), func(v *api.Vote) { v.Source = p; v.Sig = []byte("source") }))
		l = append(l, changed(vote(), func(v *api.Vote) { v.Target = p; v.Sig = []byte("target") }))
	}
	for _, size := range []int{0, 1, 2, 255, 256, 1216, 4095, 4096} {
		l = append(l, changed(vote(), func(v *api.Vote) { v.Sig = make([]byte, size) }))
	}
	return append(l, vote())
}

func wrongVotes() []api.Vote {
	l := []api.Vote{{}}
	for _, n := range wrongNumbers {
		l = append(l, changed(vote(), func(v *api.Vote) { v.Validator = n }))
	}
	for _, p := range wrongPoints() {
		l = append(l, changed(vote(), func(v *api.Vote) { v.Source = p }))
		l = append(l, changed(vote(), func(v *api.Vote) { v.Target = p }))
	}
	return append(l, longVotes()...)
}

// longVotes are those whose Sig alone is too long: by a byte, as long as a blob may be, longer, by so much that two bytes do not say it.
func longVotes() []api.Vote {
	var l []api.Vote
	for _, size := range []int{4097, 8192, 65535, 65536, 65537, 65536 + 4096, 1 << 20} {
		l = append(l, changed(vote(), func(v *api.Vote) { v.Sig = make([]byte, size) }))
	}
	return l
}

func rightOps() []api.HeaderOp {
	l := []api.HeaderOp{deposit(), slash()}
	for _, key := range []api.Hash{{}, {1}, {31: 1}, allOf(255)} {
		for _, stake := range rightStakes {
			l = append(l, api.HeaderOp{Kind: api.OpDeposit, Key: key, Stake: stake})
		}
	}
	for _, n := range rightNumbers {
		l = append(l, api.HeaderOp{Kind: api.OpExit, Validator: n})
		l = append(l, changed(slash(), func(o *api.HeaderOp) { o.Validator = n; o.Evidence[0].Sig = nil }))
	}
	for _, v := range rightVotes() {
		l = append(l, changed(slash(), func(o *api.HeaderOp) { o.Evidence[0] = v; o.Evidence[1].Sig = []byte("first") }))
		l = append(l, changed(slash(), func(o *api.HeaderOp) { o.Evidence[1] = v; o.Evidence[0].Sig = []byte("second") }))
	}
	return unlikeOps(l)
}

// unlikeOps is each of some once.
func unlikeOps(l []api.HeaderOp) []api.HeaderOp {
	var unlike []api.HeaderOp
	seen := map[string]bool{}
	for _, o := range l {
		if !seen[string(textOp(o))] {
			seen[string(textOp(o))] = true
			unlike = append(unlike, o)
		}
	}
	return unlike
}

// unnamed are operations of which something that they do not name is not zero.
func unnamed() []api.HeaderOp {
	var l []api.HeaderOp
	add := func(o api.HeaderOp, change func(*api.HeaderOp)) { l = append(l, changed(o, change)) }
	for _, n := range []int{1, 3, 64, 65, 256, -1} {
		add(deposit(), func(o *api.HeaderOp) { o.Validator = n })
	}
	for _, o := range []api.HeaderOp{exit(), slash()} {
		for _, key := range []api.Hash{{1}, {15: 1}, {31: 1}, allOf(255)} {
			add(o, func(o *api.HeaderOp) { o.Key = key })
		}
		for _, stake := range []uint64{1, 256, 1 << 32, 1<<32 + 1, 1 << 63} {
			add(o, func(o *api.HeaderOp) { o.Stake = stake })
		}
	}
	for _, o := range []api.HeaderOp{deposit(), exit()} {
		for _, evidence := range [][]api.Vote{{{}}, {{}, {}}, {vote()}, slash().Evidence, repeated(vote(), 3)} {
			add(o, func(o *api.HeaderOp) { o.Evidence = evidence })
		}
	}
	return l
}

func wrongOps() []api.HeaderOp {
	l := append([]api.HeaderOp{{}}, unnamed()...)
	for _, k := range wrongKinds {
		l = append(l, api.HeaderOp{Kind: k})
		for _, o := range ops() {
			l = append(l, changed(o, func(o *api.HeaderOp) { o.Kind = k }))
		}
	}
	for _, stake := range wrongStakes {
		l = append(l, changed(deposit(), func(o *api.HeaderOp) { o.Stake = stake }))
	}
	for _, n := range wrongNumbers {
		l = append(l, changed(exit(), func(o *api.HeaderOp) { o.Validator = n }))
		l = append(l, changed(slash(), func(o *api.HeaderOp) { o.Validator = n }))
	}
	for _, n := range []int{0, 1, 3, 4, 256, 258} {
		l = append(l, changed(slash(), func(o *api.HeaderOp) { o.Evidence = repeated(vote(), n) }))
	}
	for _, v := range wrongVotes() {
		l = append(l, changed(slash(), func(o *api.HeaderOp) { o.Evidence[0] = v }))
		l = append(l, changed(slash(), func(o *api.HeaderOp) { o.Evidence[1] = v }))
	}
	return l
}

func rightHeaders() []api.Header {
	var l []api.Header
	for _, p := range rightPoints() {
		if p.Epoch > 0 {
			l = append(l, api.Header{Parent: p.Name, Epoch: p.Epoch})
		}
	}
	for n := 1; n <= 16; n++ {
		for _, o := range ops() {
			l = append(l, api.Header{Epoch: 7, Ops: repeated(o, n)})
		}
	}
	for _, o := range rightOps() {
		l = append(l, api.Header{Epoch: 8, Ops: []api.HeaderOp{o}}, api.Header{Epoch: 9, Ops: []api.HeaderOp{exit(), o, deposit()}})
	}
	return append(l, header(), changed(header(), func(h *api.Header) { h.Ops[0], h.Ops[1] = h.Ops[1], h.Ops[0] }))
}

func wrongHeaders() []api.Header {
	l := []api.Header{{}, {Parent: allOf(1), Ops: ops()}}
	for _, epoch := range append([]uint64{0}, wrongEpochs...) {
		l = append(l, changed(header(), func(h *api.Header) { h.Epoch = epoch }), api.Header{Epoch: epoch})
	}
	for _, n := range []int{17, 18, 255, 256, 257, 256 + 16, 512} {
		for _, o := range ops() {
			l = append(l, changed(header(), func(h *api.Header) { h.Ops = repeated(o, n) }))
		}
	}
	for _, o := range wrongOps() {
		l = append(l, api.Header{Epoch: 1, Ops: []api.HeaderOp{o}})
	}
	for i := range 16 {
		for _, o := range []api.HeaderOp{{}, {Kind: 4}, changed(exit(), func(o *api.HeaderOp) { o.Validator = 65 })} {
			l = append(l, changed(header(), func(h *api.Header) { h.Ops = repeated(exit(), 16); h.Ops[i] = o }))
		}
	}
	return l
}

func rightAnchors() []api.Anchor {
	l := []api.Anchor{anchor()}
	for _, p := range rightPoints() {
		l = append(l, changed(anchor(), func(a *api.Anchor) { a.Point = p }))
	}
	for n := 1; n <= 64; n++ {
		l = append(l, changed(anchor(), func(a *api.Anchor) { a.Validators = members(n); a.Churn = 11 }))
	}
	for i, stake := range []uint64{256, 1<<31 + 1, 1<<32 - 1, 1 << 32, 1} {
		l = append(l, changed(anchor(), func(a *api.Anchor) { a.Validators[(3+i)%4].Stake = stake; a.Churn = 12 }))
	}
	// Keys of noughts, and such as differ in one bit.
	l = append(l, api.Anchor{Validators: []api.Validator{{Stake: 1}}, Churn: 1})
	l = append(l, api.Anchor{Validators: []api.Validator{{Stake: 1}, {Key: api.Hash{31: 1}, Stake: 1}, {Key: api.Hash{128}, Stake: 1}}, Churn: 1})
	for _, n := range []uint64{1, 2, 1<<62 - 1, 1 << 62} {
		l = append(l, changed(anchor(), func(a *api.Anchor) { a.Churn = n }))
	}
	for _, n := range []uint64{0, 1, 256, 1<<62 - 1, 1 << 62} {
		l = append(l, changed(anchor(), func(a *api.Anchor) { a.Decay = n }))
	}
	return l
}

func wrongAnchors() []api.Anchor {
	l := []api.Anchor{{}}
	for _, p := range wrongPoints() {
		l = append(l, changed(anchor(), func(a *api.Anchor) { a.Point = p }))
	}
	for _, n := range []int{0, 65, 66, 128, 255, 256, 257, 256 + 64, 512} {
		l = append(l, changed(anchor(), func(a *api.Anchor) { a.Validators = members(n) }))
	}
	for i := range 64 {
		for _, stake := range wrongStakes {
			l = append(l, changed(anchor(), func(a *api.Anchor) { a.Validators = members(64); a.Validators[i].Stake = stake }))
		}
		for j := range i {
			l = append(l, changed(anchor(), func(a *api.Anchor) { a.Validators = members(64); a.Validators[i].Key = a.Validators[j].Key }))
		}
	}
	l = append(l, api.Anchor{Validators: []api.Validator{{Stake: 1}, {Stake: 2}}, Churn: 1})
	for _, n := range append([]uint64{0}, wrongEpochs...) {
		l = append(l, changed(anchor(), func(a *api.Anchor) { a.Churn = n }))
	}
	for _, n := range wrongEpochs {
		l = append(l, changed(anchor(), func(a *api.Anchor) { a.Decay = n }))
	}
	return l
}
