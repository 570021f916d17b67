package registry

import (
	"slices"

	"landmark/api"
)

// hasStatus tells of members whether they have a status.
func hasStatus(s api.MemberStatus) func(m api.Member) bool {
	return func(m api.Member) bool { return m.Status == s }
}

// votes: is a member active? Who goes votes still.
func votes(m api.Member) bool {
	return m.Status == api.MemberActive || m.Status == api.MemberGoing
}

// is: is there a member of that number, of whom it holds?
func is(r api.Register, n int, holds func(m api.Member) bool) bool {
	return 1 <= n && n <= len(r.Members) && holds(r.Members[n-1])
}

// numbers are those of the members of whom it holds, in order.
func numbers(r api.Register, holds func(m api.Member) bool) []int {
	var l []int
	for i, m := range r.Members {
		if holds(m) {
			l = append(l, i+1)
		}
	}
	return l
}

// isLine: does a line name just those of a status, each once?
func isLine(r api.Register, line []int, s api.MemberStatus) bool {
	those := numbers(r, hasStatus(s))
	// However long a line is: only one of at most MaxValidators is sorted.
	return len(line) == len(those) && slices.Equal(slices.Sorted(slices.Values(line)), those)
}

// clone is a register that shares nothing with the one that it is of.
func clone(r api.Register) api.Register {
	r.Members, r.Coming, r.Going = slices.Clone(r.Members), slices.Clone(r.Coming), slices.Clone(r.Going)
	return r
}
