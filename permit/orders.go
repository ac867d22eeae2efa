package permit

import (
	"slices"

	"bipole/api"
	"bipole/check"
	"bipole/list"
	"bipole/whole"
)

// searched is a yard in a state that is searched, and the moves that have led to it.
type searched struct {
	Yard
	moves []string
}

// State returns the state of a yard.
func State(y Yard) (int, api.Errno) {
	if e := CheckYard(y); e != api.OK {
		return 0, e
	}
	return y.state(), api.OK
}

// state returns the set of the switches that are closed.
func (y Yard) state() int {
	state := 0
	for i := range len(y.Switches) {
		if y.Switches[i].Closed {
			state |= whole.Bit(i)
		}
	}
	return state
}

// checkState returns ErrRange for an integer that is no state.
func (y Yard) checkState(state int) api.Errno {
	return check.Range(state, 0, whole.Bit(len(y.Switches))-1)
}

// With returns a yard in a state.
func With(y Yard, state int) (Yard, api.Errno) {
	if e := check.First(CheckYard(y), y.checkState(state)); e != api.OK {
		return Yard{}, e
	}
	after := y.with(state)
	if !after.survey().isSound() {
		return Yard{}, api.ErrState
	}
	return after, api.OK
}

// with returns the yard in a state, in which it may be unsound.
func (y Yard) with(state int) Yard {
	after := y.copied()
	for i := range len(after.Switches) {
		after.Switches[i].Closed = whole.Has(state, i)
	}
	return after
}

// Reached returns the states that are reached.
func Reached(y Yard) ([]int, api.Errno) {
	if e := CheckYard(y); e != api.OK {
		return nil, e
	}
	all, _ := y.search(func(Yard) bool { return false })
	return statesOf(all), api.OK
}

// search goes from state to state, the nearest ones first, until something holds in one
// of them. It returns those that are reached by then, each after the least order that
// leads to it, and whether it holds in the last one.
func (y Yard) search(holds func(Yard) bool) ([]searched, bool) {
	l := []searched{{Yard: y}}
	known := map[int]bool{y.state(): true}
	found := holds(y)
search:
	for at := 0; at < len(l) && !found; at++ {
		for i := range len(y.Switches) {
			next, free := l[at].after(i)
			if !free || known[next.state()] {
				continue
			}
			l = append(l, next)
			known[next.state()] = true
			if found = holds(next.Yard); found {
				break search
			}
		}
	}
	return l, found
}

// after returns the state after a move of a switch, and whether no lock forbids it.
func (s searched) after(i int) (searched, bool) {
	if s.why(i) != "" {
		return searched{}, false
	}
	return searched{Yard: s.moved(i), moves: append(slices.Clone(s.moves), s.Switches[i].Name)}, true
}

// statesOf returns the states that were searched, ascending.
func statesOf(l []searched) []int {
	states := list.Mapped(l, searched.state)
	slices.Sort(states)
	return states
}

// Order returns the least order of moves that reaches a goal.
func Order(y Yard, g Goal) ([]string, api.Errno) {
	a, e := aimOf(y, g)
	if e != api.OK {
		return nil, e
	}
	l, found := y.search(a.holds)
	if !found {
		return nil, api.ErrInfeasible
	}
	return l[len(l)-1].moves, api.OK
}

// CheckOrder returns OK for moves that reach a goal.
func CheckOrder(y Yard, g Goal, l []string) api.Errno {
	a, e := aimOf(y, g)
	if e := check.First(e, check.That(len(l) <= api.MaxList, api.ErrMany)); e != api.OK {
		return e
	}
	after := y
	for _, name := range l {
		next, e := after.move(name)
		if e != api.OK {
			return e
		}
		after = next
	}
	return check.That(a.holds(after), api.ErrOpen)
}
