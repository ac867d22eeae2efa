package permit

import (
	"cmp"
	"slices"

	"bipole/api"
	"bipole/check"
)

// Barrier returns a barrier that keeps a yard from a goal.
func Barrier(y Yard, g Goal) ([]int, api.Errno) {
	a, e := aimOf(y, g)
	if e != api.OK {
		return nil, e
	}
	l, found := y.search(a.holds)
	if found {
		return nil, api.ErrConflict
	}
	return statesOf(l), api.OK
}

// CheckBarrier returns OK for a barrier that keeps a yard from a goal.
func CheckBarrier(y Yard, g Goal, states []int) api.Errno {
	a, e := aimOf(y, g)
	if e := check.First(e, check.Successive(states, api.MaxList, y.checkNextState)); e != api.OK {
		return e
	}
	if !slices.Contains(states, y.state()) {
		return api.ErrProof
	}
	for _, state := range states {
		s := searched{Yard: y.with(state)}
		if !s.survey().isSound() || a.holds(s.Yard) || !s.staysIn(states) {
			return api.ErrProof
		}
	}
	return api.OK
}

// checkNextState returns the error of a state that stands behind others, or OK.
func (y Yard) checkNextState(before []int, state int) api.Errno {
	return check.First(
		y.checkState(state),
		check.Above(before, state, cmp.Compare))
}

// staysIn reports whether each move that no lock forbids leads to one of some states.
func (s searched) staysIn(states []int) bool {
	for i := range len(s.Switches) {
		if next, free := s.after(i); free && !slices.Contains(states, next.state()) {
			return false
		}
	}
	return true
}
