package permit_test

import (
	"fmt"
	"math/rand"
	"slices"
	"testing"

	"bipole/api"
	"bipole/permit"
)

// isBarrier fails a test if the barrier for a goal, or its error, are not the expected
// ones.
func isBarrier(t *testing.T, y permit.Yard, kind, section string, want []int, wanted api.Errno) {
	t.Helper()
	what := brief(section, " ", kind, " in ", y)
	states, e := permit.Barrier(y, permit.Goal{Kind: kind, Section: section})
	isList(t, what, states, want)
	is(t, what, e, wanted)
}

// P9.4
func TestBarrier(t *testing.T) {
	eachBadGoal(func(_ string, y permit.Yard, g permit.Goal, e api.Errno) {
		isBarrier(t, y, g.Kind, g.Section, nil, e)
	})
	isBarrier(t, held(shown(4), 2), "energized", "p", []int{4, 5}, api.OK)
	isBarrier(t, held(shown(5), 2), "energized", "p", []int{4, 5}, api.OK)
	isBarrier(t, held(shown(5), 2), "secured", "m", []int{4, 5}, api.OK)
	isBarrier(t, held(shown(4), 2), "energized", "m", nil, api.ErrConflict)
	isBarrier(t, held(shown(5), 2), "energized", "m", nil, api.ErrConflict) // it holds already
	isBarrier(t, held(shown(4), 2), "dead", "p", nil, api.ErrConflict)
	isBarrier(t, held(shown(4), 2), "secured", "p", nil, api.ErrConflict)
	for state := range 7 {
		all := []int{0, 1, 2, 3, 4, 5, 6}
		isBarrier(t, shown(state), "dead", "g", all, api.OK)
		isBarrier(t, shown(state), "secured", "g", all, api.OK)
		isBarrier(t, shown(state), "secured", "m", all, api.OK)
		isBarrier(t, shown(state), "secured", "p", nil, api.ErrConflict)
		isBarrier(t, shown(state), "energized", "p", nil, api.ErrConflict)
		isBarrier(t, shown(state), "dead", "m", nil, api.ErrConflict)
	}
	isBarrier(t, permit.Yard{Sections: sections("a b*")}, "energized", "a", []int{0}, api.OK)
	isBarrier(t, permit.Yard{Sections: sections("a b*")}, "energized", "b", nil, api.ErrConflict)
	all := make([]int, 256)
	for state := range all {
		all[state] = state
	}
	isBarrier(t, lone(8), "energized", "h", all, api.OK)
	isBarrier(t, held(lone(8), 7), "energized", "a", all[128:], api.OK)
}

// P9.4: there is a barrier if no order reaches a goal, and it is that of the definition.
func TestBarriersOfMany(t *testing.T) {
	r := rand.New(rand.NewSource(941))
	seen := map[api.Errno]int{}
	for range 600 {
		y := randomYard(r, 6)
		reached := reachedFrom(y)
		for _, g := range goalsOf(y) {
			want, e := reached, api.OK
			if slices.ContainsFunc(reached, func(state int) bool { return holds(in(state, y), g) }) {
				want, e = nil, api.ErrConflict
			}
			isBarrier(t, y, g.Kind, g.Section, want, e)
			seen[e]++
		}
	}
	if seen[api.OK] < 1000 || seen[api.ErrConflict] < 1000 {
		t.Errorf("the errors are %v", seen)
	}
}

// isBarrierChecked fails a test if the error of states for a goal is not the expected
// one.
func isBarrierChecked(t *testing.T, y permit.Yard, kind, section string, states []int, want api.Errno) {
	t.Helper()
	e := permit.CheckBarrier(y, permit.Goal{Kind: kind, Section: section}, states)
	is(t, brief(states, " for ", section, " ", kind, " in ", y), e, want)
}

// P9.4
func TestCheckBarrier(t *testing.T) {
	eachBadGoal(func(_ string, y permit.Yard, g permit.Goal, e api.Errno) {
		isBarrierChecked(t, y, g.Kind, g.Section, nil, e)
		isBarrierChecked(t, y, g.Kind, g.Section, []int{-1, -1}, e)
		isBarrierChecked(t, y, g.Kind, g.Section, make([]int, 257), e)
	})
	y := held(shown(4), 2)
	isBarrierChecked(t, y, "energized", "p", []int{4, 5}, api.OK)
	isBarrierChecked(t, y, "energized", "p", nil, api.ErrProof)
	isBarrierChecked(t, y, "energized", "p", []int{4}, api.ErrProof)
	isBarrierChecked(t, y, "energized", "p", []int{5}, api.ErrProof) // without the own state
	isBarrierChecked(t, y, "energized", "p", []int{4, 5, 6}, api.ErrProof)
	isBarrierChecked(t, y, "energized", "p", []int{3, 4, 5}, api.ErrProof)
	isBarrierChecked(t, y, "energized", "p", []int{0, 4, 5}, api.ErrProof) // not sound with the permit
	isBarrierChecked(t, y, "energized", "p", []int{0, 1, 2, 3, 4, 5, 6, 7}, api.ErrProof)
	isBarrierChecked(t, y, "energized", "m", []int{4, 5}, api.ErrProof)
	isBarrierChecked(t, y, "energized", "m", []int{4}, api.ErrProof)
	isBarrierChecked(t, y, "secured", "p", []int{4, 5}, api.ErrProof)
	isBarrierChecked(t, y, "dead", "g", []int{4, 5}, api.OK)
	isBarrierChecked(t, shown(4), "dead", "g", []int{4, 5}, api.ErrProof)
	isBarrierChecked(t, shown(4), "dead", "g", []int{0, 1, 2, 3, 4, 5, 6}, api.OK)
	isBarrierChecked(t, shown(4), "dead", "g", []int{0, 1, 2, 3, 4, 5, 6, 7}, api.ErrProof)
	isBarrierChecked(t, permit.Yard{Sections: sections("a b*")}, "energized", "a", []int{0}, api.OK)
	isBarrierChecked(t, permit.Yard{Sections: sections("a b*")}, "energized", "b", []int{0}, api.ErrProof)
}

// P9.4: a barrier may have states that are not reached.
func TestCheckBarrierBeyondReached(t *testing.T) {
	y := permit.Yard{Sections: sections("a* b c"), Switches: []permit.Switch{isolator("i", 0, 1), earth("e", 2)}}
	isBarrierChecked(t, y, "dead", "a", []int{0, 2}, api.OK)
	isBarrierChecked(t, y, "dead", "a", []int{0, 1, 2, 3}, api.OK)
	isBarrierChecked(t, y, "dead", "a", []int{0, 1, 2}, api.ErrProof)
	isBarrierChecked(t, y, "dead", "a", []int{1, 3}, api.ErrProof)
	isBarrierChecked(t, y, "energized", "b", []int{0, 2}, api.OK)
	isBarrierChecked(t, y, "energized", "b", []int{0, 1, 2, 3}, api.ErrProof) // not reached, but it holds there
}

// P9.4: the states are ascending, and those of the yard.
func TestCheckBarrierOfBadStates(t *testing.T) {
	y := held(shown(4), 2)
	for _, n := range beyond(0, 7) {
		isBarrierChecked(t, y, "energized", "p", []int{n}, api.ErrRange)
		isBarrierChecked(t, y, "energized", "p", []int{4, 5, n, n}, api.ErrRange)
		isBarrierChecked(t, y, "energized", "p", []int{5, 4, n}, api.ErrOrder)
		isBarrierChecked(t, permit.Yard{Sections: sections("a")}, "secured", "a", []int{0, n}, api.ErrRange)
	}
	isBarrierChecked(t, permit.Yard{Sections: sections("a")}, "secured", "a", []int{1}, api.ErrRange)
	isBarrierChecked(t, y, "energized", "p", []int{4, 4, 5}, api.ErrOrder)
	isBarrierChecked(t, y, "energized", "p", []int{5, 4}, api.ErrOrder)
	isBarrierChecked(t, y, "energized", "m", []int{4, 5, 3}, api.ErrOrder)
	isBarrierChecked(t, y, "energized", "p", []int{0, 7, 7}, api.ErrOrder)
	all := make([]int, 256)
	for state := range all {
		all[state] = state
	}
	isBarrierChecked(t, lone(8), "energized", "a", all, api.OK)
	isBarrierChecked(t, lone(8), "energized", "a", append(slices.Clone(all[:255]), 254), api.ErrOrder)
	isBarrierChecked(t, lone(8), "energized", "a", append(slices.Clone(all[:255]), 256), api.ErrRange)
	isBarrierChecked(t, lone(8), "energized", "a", append(slices.Clone(all), 256), api.ErrMany)
	isBarrierChecked(t, y, "energized", "p", all, api.ErrRange)
	isBarrierChecked(t, y, "energized", "p", append(all, -1), api.ErrMany)
}

// isProof reports whether states are a barrier for a goal, by the definition.
func isProof(y permit.Yard, moves map[int]map[int]int, g permit.Goal, states []int) bool {
	for _, state := range states {
		nexts, sound := moves[state]
		if !sound || holds(in(state, y), g) {
			return false
		}
		for _, next := range nexts {
			if !slices.Contains(states, next) {
				return false
			}
		}
	}
	return slices.Contains(states, stateOf(y))
}

// P9.4: states are a barrier by the definition.
func TestCheckBarrierOfMany(t *testing.T) {
	r := rand.New(rand.NewSource(942))
	seen := map[string]int{}
	for range 600 {
		y := randomYard(r, 4)
		moves := movesOf(y)
		for _, g := range goalsOf(y) {
			states, e := permit.Barrier(y, g)
			if e != api.OK {
				states = reachedFrom(y)
			}
			states = changed(r, moves, states)
			want := api.ErrProof
			if isProof(y, moves, g, states) {
				want = api.OK
			}
			isBarrierChecked(t, y, g.Kind, g.Section, states, want)
			seen[fmt.Sprint(e, want, len(states) > len(reachedFrom(y)))]++
		}
	}
	for _, result := range []string{"0 0 false", "0 0 true", "0 19 false", "0 19 true", "24 19 false"} {
		if seen[result] < 50 {
			t.Errorf("%s: the results are %v", result, seen)
		}
	}
}

// changed returns states of which one may be missing, and to which others may be added,
// one of them or all that are sound.
func changed(r *rand.Rand, moves map[int]map[int]int, states []int) []int {
	l := slices.Clone(states)
	switch r.Intn(4) {
	case 0:
		i := r.Intn(len(l))
		l = slices.Delete(l, i, i+1)
	case 1:
		l = append(l, r.Intn(slices.Max(l)+1))
	case 2:
		for state := range moves {
			l = append(l, state)
		}
	}
	slices.Sort(l)
	return slices.Compact(l)
}
