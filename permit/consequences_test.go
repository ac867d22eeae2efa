package permit_test

import (
	"fmt"
	"math/rand"
	"slices"
	"testing"

	"bipole/api"
	"bipole/permit"
)

// P9.5, P10: no act leads to a yard that is not sound, and no section that has a permit
// is energized.
func TestConsequencesOfActs(t *testing.T) {
	r := rand.New(rand.NewSource(951))
	seen := map[string]int{}
	for range 2000 {
		y := randomYard(r, 8)
		for range 20 {
			a := randomAct(r, y)
			what := fmt.Sprint(a, " in ", y)
			next, _, e := permit.Play(y, []permit.Act{a})
			seen[fmt.Sprint(a.Kind, " ", e)]++
			if e != api.OK {
				continue
			}
			y = next
			is(t, what, permit.CheckYard(y), api.OK)
			is(t, what, isSound(y), true)
			energized, _ := permit.Energized(y)
			for _, x := range y.Permits {
				is(t, what, slices.Contains(energized, x.Section), false)
			}
		}
	}
	for _, result := range []string{"move 0", "grant 0", "return 0", "move 21", "grant 21"} {
		if seen[result] < 200 {
			t.Errorf("the results are %v", seen)
		}
	}
}

// P9.5: what is secured is not energized, whatever breakers are closed.
func TestConsequencesOfSecured(t *testing.T) {
	r := rand.New(rand.NewSource(952))
	reached := 0
	for range 3000 {
		y := randomYard(r, 8)
		secured, _ := permit.Secured(y)
		closed := y
		closed.Switches = slices.Clone(y.Switches)
		for i, x := range y.Switches {
			closed.Switches[i].Closed = x.Closed || x.Kind == "breaker" && r.Intn(3) > 0
		}
		what := fmt.Sprint(y, " and ", closed)
		energized, _ := permit.Energized(y)
		for _, section := range secured {
			is(t, what, slices.Contains(energized, section), false)
			is(t, what, factsOf(closed, section).energized, false)
		}
		after, e := permit.With(y, stateOf(closed))
		is(t, what, e == api.OK, isSound(closed))
		if e == api.OK && stateOf(closed) != stateOf(y) {
			again, _ := permit.Secured(after)
			for _, section := range secured {
				reached++
				is(t, what, slices.Contains(again, section), true)
			}
		}
	}
	if reached < 300 {
		t.Errorf("only %d sections are still secured", reached)
	}
}

// P9.5: a move that is undone at once leaves the yard, if no lock forbids it.
func TestConsequencesOfUndoneMoves(t *testing.T) {
	r := rand.New(rand.NewSource(953))
	undone, locked := 0, 0
	for range 3000 {
		y := randomYard(r, 8)
		for _, x := range y.Switches {
			after, e := permit.Move(y, x.Name)
			if e != api.OK {
				continue
			}
			lock, _ := permit.Why(after, x.Name)
			again, e := permit.Move(after, x.Name)
			if lock != "" {
				locked++
				is(t, fmt.Sprint(x.Name, " of ", y), e, api.ErrRule)
				continue
			}
			undone++
			isYard(t, fmt.Sprint(x.Name, " of ", y), again, y)
		}
	}
	if undone < 1000 || locked < 100 {
		t.Errorf("%d moves are undone, %d have a lock", undone, locked)
	}
}

// P9.5, P10: a goal is reached by an order, or there is a barrier, and never both,
// whatever states this has.
func TestConsequencesOfGoals(t *testing.T) {
	r := rand.New(rand.NewSource(954))
	seen := map[api.Errno]int{}
	for range 300 {
		y := randomYard(r, 3)
		for _, g := range goalsOf(y) {
			what := fmt.Sprint(g, " in ", y)
			order, e := permit.Order(y, g)
			states, barred := permit.Barrier(y, g)
			seen[e]++
			if e == api.OK {
				is(t, what, barred, api.ErrConflict)
				is(t, what, permit.CheckOrder(y, g, order), api.OK)
			} else {
				is(t, what, e, api.ErrInfeasible)
				is(t, what, barred, api.OK)
				is(t, what, permit.CheckBarrier(y, g, states), api.OK)
			}
			proved := false
			for some := range 1 << (1 << len(y.Switches)) {
				proved = proved || permit.CheckBarrier(y, g, statesIn(some)) == api.OK
			}
			is(t, what, proved, e == api.ErrInfeasible)
		}
	}
	if seen[api.OK] < 300 || seen[api.ErrInfeasible] < 300 {
		t.Errorf("the errors are %v", seen)
	}
}

// statesIn returns the states of a set of up to eight.
func statesIn(set int) []int {
	var l []int
	for state := range 8 {
		if set>>state%2 == 1 {
			l = append(l, state)
		}
	}
	return l
}

// P9.5, P10: the least order reaches its goal, and no shorter list of moves does, nor one
// as long that stands before it.
func TestConsequencesOfOrders(t *testing.T) {
	r := rand.New(rand.NewSource(955))
	longest := 0
	for range 500 {
		y := randomYard(r, 4)
		for _, g := range goalsOf(y) {
			order, e := permit.Order(y, g)
			if e != api.OK || len(order) > 5 {
				continue
			}
			longest = max(longest, len(order))
			what := fmt.Sprint(order, " for ", g, " in ", y)
			is(t, what, permit.CheckOrder(y, g, order), api.OK)
			for n := range len(order) {
				eachList(y, n, func(l []string) bool {
					is(t, what, permit.CheckOrder(y, g, l) == api.OK, false)
					return true
				})
			}
			eachList(y, len(order), func(l []string) bool {
				is(t, what, permit.CheckOrder(y, g, l) == api.OK, slices.Equal(l, order))
				return !slices.Equal(l, order)
			})
		}
	}
	is(t, "the longest order", longest, 5)
}

// eachList calls a function with lists of so many names of the switches of a yard, in
// their order, until it returns false.
func eachList(y permit.Yard, n int, f func([]string) bool) bool {
	if n == 0 {
		return f(nil)
	}
	for _, x := range y.Switches {
		if !eachList(y, n-1, func(l []string) bool { return f(append([]string{x.Name}, l...)) }) {
			return false
		}
	}
	return true
}

// P9.5: more permits reach no more states.
func TestConsequencesOfPermits(t *testing.T) {
	r := rand.New(rand.NewSource(956))
	fewer, same := 0, 0
	for range 2000 {
		y := randomYard(r, 6)
		section := y.Sections[r.Intn(len(y.Sections))].Name
		with, e := permit.Grant(y, "more", section)
		if e != api.OK {
			continue
		}
		all, _ := permit.Reached(y)
		some, e := permit.Reached(with)
		is(t, fmt.Sprint(with), e, api.OK)
		for _, state := range some {
			is(t, fmt.Sprint(with), slices.Contains(all, state), true)
		}
		if len(some) < len(all) {
			fewer++
		} else {
			same++
		}
	}
	if fewer < 50 || same < 50 {
		t.Errorf("fewer states are reached by %d permits, the same ones by %d", fewer, same)
	}
}

// P9.5: yards are parsed as they were printed.
func TestConsequencesOfTexts(t *testing.T) {
	r := rand.New(rand.NewSource(957))
	for range 3000 {
		y := randomYard(r, 8)
		s, e := permit.Print(y)
		is(t, fmt.Sprint(y), e, api.OK)
		parsed, at, e := permit.Parse(s)
		isYard(t, s, parsed, y)
		is(t, s+": index", at, 0)
		is(t, s+": error", e, api.OK)
		again, _ := permit.Print(parsed)
		is(t, s+": printed again", again, s)
	}
}
