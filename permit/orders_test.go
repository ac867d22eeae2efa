package permit_test

import (
	"fmt"
	"maps"
	"math/rand"
	"slices"
	"strings"
	"testing"

	"bipole/api"
	"bipole/permit"
)

// isState fails a test if the state of a yard, or its error, are not the expected ones.
func isState(t *testing.T, y permit.Yard, want int, wanted api.Errno) {
	t.Helper()
	state, e := permit.State(y)
	is(t, brief("state of ", y), state, want)
	is(t, brief("state of ", y), e, wanted)
}

// P9.3
func TestState(t *testing.T) {
	eachBadYard(func(_ string, y permit.Yard, e api.Errno) {
		isState(t, y, 0, e)
	})
	for state := range 7 {
		isState(t, shown(state), state, api.OK)
	}
	for state := range 256 {
		isState(t, in(state, lone(8)), state, api.OK)
	}
	isState(t, held(shown(5), 2), 5, api.OK)
	isState(t, permit.Yard{Sections: sections("a b")}, 0, api.OK)
}

// isWith fails a test if a yard in another state, or its error, are not the expected
// ones.
func isWith(t *testing.T, y permit.Yard, state int, want api.Errno) {
	t.Helper()
	what := brief("in the state ", state, " ", y)
	after, e := permit.With(y, state)
	is(t, what, e, want)
	if want != api.OK {
		isYard(t, what, after, permit.Yard{})
		return
	}
	isYard(t, what, after, in(state, y))
}

// P9.3
func TestWith(t *testing.T) {
	eachBadYard(func(_ string, y permit.Yard, e api.Errno) {
		isWith(t, y, 0, e)
		isWith(t, y, -1, e)
		isWith(t, y, 256, e)
	})
	for state := range 7 {
		for other := range 7 {
			isWith(t, shown(state), other, api.OK)
			e := api.ErrState
			if other == 4 || other == 5 {
				e = api.OK
			}
			isWith(t, held(shown(4), 2), other, e)
		}
		isWith(t, shown(state), 7, api.ErrState)
		for _, n := range beyond(0, 7) {
			isWith(t, shown(state), n, api.ErrRange)
		}
	}
	for _, n := range beyond(0, 7) {
		isWith(t, held(shown(5), 2), n, api.ErrRange)
	}
	for state := range 256 {
		isWith(t, lone(8), state, api.OK)
	}
	for _, n := range beyond(0, 255) {
		isWith(t, lone(8), n, api.ErrRange)
	}
	none := permit.Yard{Sections: sections("a*")}
	isWith(t, none, 0, api.OK)
	for _, n := range beyond(0, 0) {
		isWith(t, none, n, api.ErrRange)
	}
}

// isReached fails a test if the states that are reached from a yard, or its error, are
// not the expected ones.
func isReached(t *testing.T, y permit.Yard, want []int, wanted api.Errno) {
	t.Helper()
	states, e := permit.Reached(y)
	isList(t, brief("reached from ", y), states, want)
	is(t, brief("reached from ", y), e, wanted)
}

// P9.3
func TestReached(t *testing.T) {
	eachBadYard(func(_ string, y permit.Yard, e api.Errno) {
		isReached(t, y, nil, e)
	})
	for state := range 7 {
		isReached(t, shown(state), []int{0, 1, 2, 3, 4, 5, 6}, api.OK)
	}
	for _, state := range []int{4, 5} {
		isReached(t, held(shown(state), 2), []int{4, 5}, api.OK)
		isReached(t, held(shown(state), 2, 2, 2), []int{4, 5}, api.OK)
	}
	isReached(t, permit.Yard{Sections: sections("a b*")}, []int{0}, api.OK)
	stuck := permit.Yard{Sections: sections("a* b"), Switches: []permit.Switch{isolator("i", 0, 1), earth("e", 0)}}
	isReached(t, in(0, stuck), []int{0}, api.OK)
	isReached(t, in(1, stuck), []int{1}, api.OK)
	all := make([]int, 256)
	for state := range all {
		all[state] = state
	}
	isReached(t, in(170, lone(8)), all, api.OK)
	isReached(t, held(lone(8), 7), all[128:], api.OK)
	isReached(t, held(lone(8), 0, 1, 2, 3, 4, 5, 6, 7), all[255:], api.OK)
	isReached(t, wide("breaker", 5), all[:128], api.OK)
	isReached(t, in(0, stuck), []int{0}, api.OK)
}

// P9.3: the states that are reached are those of the definition.
func TestReachedOfMany(t *testing.T) {
	r := rand.New(rand.NewSource(931))
	many, few := 0, 0
	for range 1000 {
		y := randomYard(r, 6)
		want := reachedFrom(y)
		isReached(t, y, want, api.OK)
		if len(want) > 8 {
			many++
		}
		if sound := soundStates(y); len(sound) > len(want) {
			few++
		}
	}
	if many < 100 || few < 100 {
		t.Errorf("from %d yards many states are reached, from %d not all", many, few)
	}
}

// soundStates returns the states in which a yard is sound.
func soundStates(y permit.Yard) []int {
	var l []int
	for state := range 1 << len(y.Switches) {
		if isSound(in(state, y)) {
			l = append(l, state)
		}
	}
	return l
}

// isOrder fails a test if the least order for a goal, or its error, are not the expected
// ones.
func isOrder(t *testing.T, y permit.Yard, kind, section, want string, wanted api.Errno) {
	t.Helper()
	what := brief(section, " ", kind, " in ", y)
	order, e := permit.Order(y, permit.Goal{Kind: kind, Section: section})
	is(t, what, strings.Join(order, " "), want)
	is(t, what, e, wanted)
}

// P9.3
func TestOrder(t *testing.T) {
	eachBadGoal(func(_ string, y permit.Yard, g permit.Goal, e api.Errno) {
		isOrder(t, y, g.Kind, g.Section, "", e)
	})
	isOrder(t, shown(3), "secured", "p", "b i e", api.OK)
	isOrder(t, shown(4), "energized", "p", "i e b", api.OK)
	isOrder(t, shown(3), "energized", "p", "", api.OK)
	isOrder(t, shown(3), "dead", "p", "b", api.OK)
	isOrder(t, shown(2), "dead", "p", "", api.OK)
	isOrder(t, shown(5), "secured", "p", "", api.OK)
	isOrder(t, shown(3), "dead", "g", "", api.ErrInfeasible)
	isOrder(t, shown(3), "secured", "m", "", api.ErrInfeasible)
	isOrder(t, shown(0), "secured", "g", "", api.ErrInfeasible)
	isOrder(t, held(shown(4), 2), "energized", "p", "", api.ErrInfeasible)
	isOrder(t, held(shown(4), 2), "energized", "m", "b", api.OK)
	isOrder(t, held(shown(5), 2), "dead", "m", "b", api.OK)
	isOrder(t, twin(0), "secured", "m", "e", api.OK)
	isOrder(t, twin(0b00111), "secured", "m", "j b i e", api.OK) // the isolator j moves before the breaker: m is energized by both
	isOrder(t, twin(0b00110), "secured", "m", "b j b i e", api.OK)
	isOrder(t, twin(0b00100), "secured", "m", "b i j b i e", api.OK)
	isOrder(t, twin(0b00001), "energized", "m", "b i b", api.OK)
	isOrder(t, wide("breaker", 127), "dead", "h", "a", api.OK)
	isOrder(t, wide("breaker", 0), "energized", "h", "a b c d e f g", api.OK)
	isOrder(t, wide("isolator", 0), "energized", "h", "", api.ErrInfeasible)
	isOrder(t, wide("breaker", 5), "energized", "h", "b d e f g", api.OK)
	isOrder(t, lone(8), "secured", "h", "", api.OK)
	isOrder(t, in(0, lone(8)), "secured", "h", "h", api.OK)
	isOrder(t, lone(8), "energized", "h", "", api.ErrInfeasible)
	isOrder(t, permit.Yard{Sections: sections("a b*")}, "energized", "a", "", api.ErrInfeasible)
	isOrder(t, permit.Yard{Sections: sections("a b*")}, "energized", "b", "", api.OK)
}

// P9.3: of several least orders the first one is taken by the indices of the switches,
// not by their names.
func TestFirstOrder(t *testing.T) {
	y := permit.Yard{Sections: sections("s* t m"), Switches: []permit.Switch{breaker("z", 1, 2), breaker("y", 0, 1), breaker("a", 0, 2)}}
	isOrder(t, in(0, y), "energized", "m", "a", api.OK)
	isOrder(t, in(0, y), "energized", "t", "y", api.OK)
	isOrder(t, in(0b111, y), "dead", "m", "z a", api.OK)
	isOrder(t, in(0b111, y), "dead", "t", "z y", api.OK)
	isOrder(t, in(0b011, y), "dead", "m", "z", api.OK)
	double := permit.Yard{Sections: sections("m s*"), Switches: []permit.Switch{breaker("d", 1, 0), breaker("c", 1, 0), breaker("b", 0, 1), breaker("a", 0, 1)}}
	isOrder(t, in(0, double), "energized", "m", "d", api.OK)
	isOrder(t, in(0b1111, double), "dead", "m", "d c b a", api.OK)
	isOrder(t, in(0b1011, double), "dead", "m", "d c a", api.OK)
	earths := permit.Yard{Sections: sections("s* m"), Switches: []permit.Switch{isolator("i", 0, 1), earth("f", 1), earth("e", 1)}}
	isOrder(t, in(0, earths), "secured", "m", "f", api.OK)
	isOrder(t, in(0b010, earths), "secured", "m", "", api.OK)
	// The breaker is closed and opened again: its isolator may move without it only.
	back := permit.Yard{Sections: sections("s* m n"), Switches: []permit.Switch{isolator("i", 1, 2), breaker("b", 0, 1)}}
	isOrder(t, in(0b10, back), "energized", "n", "b i b", api.OK)
	isOrder(t, in(0b00, back), "energized", "n", "i b", api.OK)
}

// movesOf returns for each state in which a yard is sound the states to which one move
// leads, by their switches.
func movesOf(y permit.Yard) map[int]map[int]int {
	l := map[int]map[int]int{}
	for _, state := range soundStates(y) {
		l[state] = nexts(y, state)
	}
	return l
}

// distances returns for each state from which a goal is reached the fewest moves to it,
// going back from the states in which it holds.
func distances(y permit.Yard, moves map[int]map[int]int, g permit.Goal) map[int]int {
	l := map[int]int{}
	for state := range moves {
		if holds(in(state, y), g) {
			l[state] = 0
		}
	}
	for n := 0; ; n++ {
		further := map[int]int{}
		for state, nexts := range moves {
			for _, next := range nexts {
				_, known := l[state]
				if far, reached := l[next]; !known && reached && far == n {
					further[state] = n + 1
				}
			}
		}
		if len(further) == 0 {
			return l
		}
		maps.Copy(l, further)
	}
}

// leastOrder returns the names of the moves by each of which a goal comes nearer, the
// first one at each place, and whether it is reached.
func leastOrder(y permit.Yard, moves map[int]map[int]int, g permit.Goal) (string, bool) {
	far := distances(y, moves, g)
	state := stateOf(y)
	if _, reached := far[state]; !reached {
		return "", false
	}
	var order []string
	for far[state] > 0 {
		for i, x := range y.Switches {
			next, free := moves[state][i]
			if rest, reached := far[next]; free && reached && rest == far[state]-1 {
				order = append(order, x.Name)
				state = next
				break
			}
		}
	}
	return strings.Join(order, " "), true
}

// P9.3: the least order for any goal is that of the definition.
func TestOrdersOfMany(t *testing.T) {
	r := rand.New(rand.NewSource(932))
	seen := map[string]int{}
	for range 1000 {
		y := randomYard(r, 6)
		moves := movesOf(y)
		for _, g := range goalsOf(y) {
			want, reached := leastOrder(y, moves, g)
			e := api.OK
			if !reached {
				e = api.ErrInfeasible
			}
			isOrder(t, y, g.Kind, g.Section, want, e)
			seen[fmt.Sprint(g.Kind, " ", e, " ", min(len(strings.Fields(want)), 3))]++
		}
	}
	for _, kind := range []string{"energized", "dead", "secured"} {
		for _, result := range []string{" 18 0", " 0 0", " 0 1", " 0 2", " 0 3"} {
			if seen[kind+result] < 5 {
				t.Errorf("%s: the results are %v", kind+result, seen)
			}
		}
	}
}

// isOrderChecked fails a test if the error of moves for a goal is not the expected one.
func isOrderChecked(t *testing.T, y permit.Yard, kind, section, moves string, want api.Errno) {
	t.Helper()
	e := permit.CheckOrder(y, permit.Goal{Kind: kind, Section: section}, strings.Fields(moves))
	is(t, brief(moves, " for ", section, " ", kind, " in ", y), e, want)
}

// P9.3
func TestCheckOrder(t *testing.T) {
	many := strings.Repeat("b ", 257)
	eachBadGoal(func(_ string, y permit.Yard, g permit.Goal, e api.Errno) {
		isOrderChecked(t, y, g.Kind, g.Section, "", e)
		isOrderChecked(t, y, g.Kind, g.Section, many, e)
		isOrderChecked(t, y, g.Kind, g.Section, "none", e)
	})
	isOrderChecked(t, shown(3), "secured", "p", "b i e", api.OK)
	isOrderChecked(t, shown(3), "secured", "p", "b i b e", api.OK) // longer than the least one
	isOrderChecked(t, shown(3), "secured", "p", "b i e e e", api.OK)
	isOrderChecked(t, shown(3), "secured", "p", "b i e e", api.ErrOpen)
	isOrderChecked(t, shown(3), "secured", "p", "b i", api.ErrOpen)
	isOrderChecked(t, shown(3), "secured", "p", "", api.ErrOpen)
	isOrderChecked(t, shown(3), "secured", "p", "b e i", api.ErrRule)
	isOrderChecked(t, shown(3), "secured", "p", "b i e none", api.ErrUnknown)
	isOrderChecked(t, shown(3), "secured", "p", "none i", api.ErrUnknown)
	isOrderChecked(t, shown(3), "secured", "p", "i none", api.ErrRule)
	isOrderChecked(t, shown(3), "secured", "p", "p", api.ErrUnknown)
	isOrderChecked(t, shown(3), "dead", "p", "b b b", api.OK)
	isOrderChecked(t, shown(3), "dead", "p", "b b", api.ErrOpen) // it holds only on the way
	isOrderChecked(t, shown(3), "energized", "p", "", api.OK)
	isOrderChecked(t, shown(3), "dead", "g", "b i e", api.ErrOpen)
	isOrderChecked(t, held(shown(4), 2), "energized", "m", "b", api.OK)
	isOrderChecked(t, held(shown(4), 2), "energized", "p", "i", api.ErrRule)
	isOrderChecked(t, shown(3), "energized", "p", many, api.ErrMany)
	isOrderChecked(t, shown(3), "energized", "p", many[:512], api.OK)
	isOrderChecked(t, shown(3), "dead", "p", many[:512], api.ErrOpen)
	isOrderChecked(t, shown(3), "dead", "p", many[:510], api.OK)
	isOrderChecked(t, shown(3), "dead", "p", strings.Repeat("none ", 257), api.ErrMany)
	is(t, "an empty name", permit.CheckOrder(shown(3), permit.Goal{Kind: "energized", Section: "p"}, []string{""}), api.ErrUnknown)
}

// P9.3: the error of any moves is that of the definition.
func TestCheckOrderOfMany(t *testing.T) {
	r := rand.New(rand.NewSource(933))
	seen := map[api.Errno]int{}
	for range 5000 {
		y := randomYard(r, 8)
		goals := goalsOf(y)
		g := goals[r.Intn(len(goals))]
		after, want := y, api.OK
		var moves []string
		for range r.Intn(12) {
			i := r.Intn(len(y.Switches) + 1)
			if i == len(y.Switches) {
				if r.Intn(5) == 0 {
					moves = append(moves, "none")
					want = max(want, api.ErrUnknown)
				}
				continue
			}
			if lockOf(after, i) != "" && r.Intn(6) > 0 {
				continue
			}
			moves = append(moves, y.Switches[i].Name)
			if want == api.OK && lockOf(after, i) != "" {
				want = api.ErrRule
			}
			after = moved(after, i)
		}
		if want == api.OK && !holds(after, g) {
			want = api.ErrOpen
		}
		seen[want]++
		isOrderChecked(t, y, g.Kind, g.Section, strings.Join(moves, " "), want)
		if i := slices.Index(moves, "none"); i >= 0 {
			isOrderChecked(t, y, g.Kind, g.Section, strings.Join(moves[i:], " "), api.ErrUnknown)
		}
	}
	for _, e := range []api.Errno{api.OK, api.ErrUnknown, api.ErrRule, api.ErrOpen} {
		if seen[e] < 100 {
			t.Errorf("the errors are %v", seen)
		}
	}
}
