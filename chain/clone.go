package chain

import (
	"slices"

	"landmark/api"
)

// cloneList is a list in new memory, as far as each of it is.
func cloneList[T any](l []T, clone func(T) T) []T {
	cloned := slices.Clone(l)
	for i, x := range cloned {
		cloned[i] = clone(x)
	}
	return cloned
}

func cloneVote(v api.Vote) api.Vote {
	v.Sig = slices.Clone(v.Sig)
	return v
}

func cloneOp(o api.HeaderOp) api.HeaderOp {
	o.Evidence = cloneList(o.Evidence, cloneVote)
	return o
}

func cloneHeader(h api.Header) api.Header {
	h.Ops = cloneList(h.Ops, cloneOp)
	return h
}
