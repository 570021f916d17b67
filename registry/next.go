package registry

import (
	"math/bits"

	"landmark/api"
)

// maxRoom is how much stake turns at once at most: far more than all members hold together.
const maxRoom = 1 << 62

// room is how much stake turns in so many epochs.
func room(churn, epochs uint64) uint64 {
	high, low := bits.Mul64(churn, epochs)
	if high > 0 {
		return maxRoom
	}
	return min(low, maxRoom)
}

// fit is how many stand first in a line whose stakes, in all, have room.
func fit(r api.Register, line []int, room uint64) int {
	for i, n := range line {
		stake := r.Members[n-1].Stake
		if stake > room {
			return i
		}
		room -= stake
	}
	return len(line)
}

// turn lets those who stand first in the lines be active, or be gone, as far as there is room in each line. The register's own members are changed.
func turn(r api.Register, room uint64) api.Register {
	// pass is the line behind those who turn.
	pass := func(line []int, s api.MemberStatus) []int {
		count := fit(r, line, room)
		for _, n := range line[:count] {
			r.Members[n-1].Status = s
		}
		return line[count:]
	}
	r.Coming, r.Going = pass(r.Coming, api.MemberActive), pass(r.Going, api.MemberGone)
	return r
}

// operate is the register behind an operation of a header that may be. The register's own members are changed.
func operate(r api.Register, op api.HeaderOp) (api.Register, api.Errno) {
	switch op.Kind {
	case api.OpDeposit:
		return deposit(r, op.Key, op.Stake)
	case api.OpExit:
		return exit(r, op.Validator)
	default:
		return slash(r, op.Validator)
	}
}

// deposit lets somebody come. That the stake is from 1 to MaxStake is layer 9's to tell of an operation.
func deposit(r api.Register, key api.Hash, stake uint64) (api.Register, api.Errno) {
	if Find(r, key) > 0 || stake > r.Churn {
		return r, api.ErrOp
	}
	if len(r.Members) >= api.MaxValidators {
		return r, api.ErrFull
	}
	r.Members = append(r.Members, api.Member{Key: key, Stake: stake, Status: api.MemberComing})
	r.Coming = append(r.Coming, len(r.Members))
	return r, api.OK
}

// exit lets a member go.
func exit(r api.Register, n int) (api.Register, api.Errno) {
	if !mayGo(r, n) {
		return r, api.ErrOp
	}
	return leave(r, n), api.OK
}

// slash marks a member, who goes then, but for the last one.
func slash(r api.Register, n int) (api.Register, api.Errno) {
	if !is(r, n, func(m api.Member) bool { return votes(m) && !m.Marked }) {
		return r, api.ErrOp
	}
	r.Members[n-1].Marked = true
	if mayGo(r, n) {
		r = leave(r, n)
	}
	return r, api.OK
}

// mayGo: is a member one of several of MemberActive? The last one stays, so that there is always somebody who votes.
func mayGo(r api.Register, n int) bool {
	stays := hasStatus(api.MemberActive)
	return is(r, n, stays) && len(numbers(r, stays)) > 1
}

func leave(r api.Register, n int) api.Register {
	r.Members[n-1].Status = api.MemberGoing
	r.Going = append(r.Going, n)
	return r
}
