package permit_test

import (
	"fmt"
	"math"
	"math/rand"
	"slices"
	"testing"

	"bipole/api"
	"bipole/permit"
)

// anyInt returns an integer, often one at the end of a range.
func anyInt(r *rand.Rand) int {
	ends := []int{0, 1, 2, 3, 8, 64, 255, 256, 1 << 40, math.MaxInt32, math.MaxInt}
	n := ends[r.Intn(len(ends))] + r.Intn(3) - 1
	if r.Intn(4) == 0 {
		n = -n - 1
	}
	return n
}

// anyList returns a list of up to 300 elements.
func anyList[T any](r *rand.Rand, element func(*rand.Rand) T) []T {
	l := make([]T, r.Intn([]int{2, 5, 9, 300}[r.Intn(4)]))
	for i := range l {
		l[i] = element(r)
	}
	return l
}

func anyName(r *rand.Rand) string { return []string{"a", "b", "c", "d", "e", "1", ""}[r.Intn(7)] }

func anyKind(r *rand.Rand) string {
	return []string{"breaker", "isolator", "earth", "energized", "dead", "secured", "move", "grant", "return", ""}[r.Intn(10)]
}

func anySection(r *rand.Rand) permit.Section {
	return permit.Section{Name: anyName(r), Source: r.Intn(4) == 0}
}

func anySwitch(r *rand.Rand) permit.Switch {
	return permit.Switch{Name: anyName(r), Kind: anyKind(r), A: anyInt(r), B: anyInt(r), Closed: r.Intn(2) == 0}
}

func anyPermit(r *rand.Rand) permit.Permit {
	return permit.Permit{Name: anyName(r), Section: anyInt(r)}
}

func anyAct(r *rand.Rand) permit.Act {
	return permit.Act{Kind: anyKind(r), Name: anyName(r), Section: anyName(r)}
}

func anyGoal(r *rand.Rand) permit.Goal {
	return permit.Goal{Kind: anyKind(r), Section: anyName(r)}
}

func anyByte(r *rand.Rand) byte { return "permit section 01\n"[r.Intn(18)] }

// anyYard returns a yard, or one with something from anywhere.
func anyYard(r *rand.Rand) permit.Yard {
	y := randomYard(r, 8)
	switch r.Intn(10) {
	case 0:
		y.Sections = anyList(r, anySection)
	case 1:
		y.Switches = anyList(r, anySwitch)
	case 2:
		y.Permits = anyList(r, anyPermit)
	case 3:
		y.Switches = append(y.Switches, anySwitch(r))
	case 4:
		y.Permits = append(y.Permits, anyPermit(r))
	case 5:
		y = permit.Yard{Sections: anyList(r, anySection), Switches: anyList(r, anySwitch), Permits: anyList(r, anyPermit)}
	}
	return y
}

// P1: every function returns, whatever its arguments are.
func TestAnyYards(t *testing.T) {
	r := rand.New(rand.NewSource(91))
	for range 2000 {
		y, g, state := anyYard(r), anyGoal(r), []int{r.Intn(256), anyInt(r)}[r.Intn(2)]
		permit.CheckYard(y)
		permit.Islands(y)
		permit.Energized(y)
		permit.Earthed(y)
		permit.Separated(y)
		permit.Secured(y)
		permit.Left(y)
		permit.Why(y, anyName(r))
		permit.Move(y, anyName(r))
		permit.Grant(y, anyName(r), anyName(r))
		permit.Return(y, anyName(r))
		permit.Play(y, anyList(r, anyAct))
		permit.State(y)
		permit.With(y, state)
		permit.Reached(y)
		permit.Order(y, g)
		permit.CheckOrder(y, g, anyList(r, anyName))
		permit.Barrier(y, g)
		permit.CheckBarrier(y, g, anyList(r, anyInt))
		permit.CheckBarrier(y, g, []int{state})
		permit.Print(y)
	}
}

// P1: every function returns, whatever its arguments are.
func TestAnyTexts(t *testing.T) {
	r := rand.New(rand.NewSource(92))
	for range 5000 {
		s := anyList(r, func(r *rand.Rand) byte { return byte(r.Intn(256)) })
		permit.Parse(string(s))
		permit.Parse("section " + string(s))
		permit.Parse("section a plain\nearth e a open" + string(anyList(r, anyByte)))
		bad := []byte(text)
		bad[r.Intn(len(bad))] = anyByte(r)
		permit.Parse(string(bad))
		permit.Parse(string(bad[:r.Intn(len(bad))]))
	}
}

// spoiled spoils a yard, also behind the ends of its lists.
func spoiled(y permit.Yard) {
	clear(y.Sections[:cap(y.Sections)])
	clear(y.Switches[:cap(y.Switches)])
	clear(y.Permits[:cap(y.Permits)])
}

// roomy returns a yard with the same lists, behind which there is room for more.
func roomy(y permit.Yard) permit.Yard {
	return permit.Yard{
		Sections: append(make([]permit.Section, 0, 20), y.Sections...),
		Switches: append(make([]permit.Switch, 0, 20), y.Switches...),
		Permits:  append(make([]permit.Permit, 0, 20), y.Permits...),
	}
}

// isRoomy fails a test if a yard, or the room behind its lists, is changed.
func isRoomy(t *testing.T, what string, y, want permit.Yard) {
	t.Helper()
	isYard(t, what, y, want)
	is(t, what, y.Sections[:cap(y.Sections)][len(y.Sections)], permit.Section{})
	is(t, what, y.Switches[:cap(y.Switches)][len(y.Switches)], permit.Switch{})
	is(t, what, y.Permits[:cap(y.Permits)][len(y.Permits)], permit.Permit{})
}

// P9.2, P9.3: yards share no memory with arguments or with earlier results, and arguments
// are not changed.
func TestMemoryOfYards(t *testing.T) {
	want := held(shown(4), 2, 2)
	y := roomy(want)
	acts := []permit.Act{move("b"), giveBack("a"), grant("c", "p")}
	for what, f := range map[string]func() (permit.Yard, api.Errno){
		"Move":            func() (permit.Yard, api.Errno) { return permit.Move(y, "b") },
		"Grant":           func() (permit.Yard, api.Errno) { return permit.Grant(y, "c", "p") },
		"Return of one":   func() (permit.Yard, api.Errno) { return permit.Return(y, "a") },
		"Return of two":   func() (permit.Yard, api.Errno) { return permit.Return(y, "b") },
		"With":            func() (permit.Yard, api.Errno) { return permit.With(y, 5) },
		"With no change":  func() (permit.Yard, api.Errno) { return permit.With(y, 4) },
		"Play":            func() (permit.Yard, api.Errno) { after, _, e := permit.Play(y, acts); return after, e },
		"Play of nothing": func() (permit.Yard, api.Errno) { after, _, e := permit.Play(y, nil); return after, e },
	} {
		first, e := f()
		is(t, what, e, api.OK)
		isRoomy(t, what, y, want)
		copied := roomy(first)
		spoiled(first)
		isRoomy(t, what, y, want)
		again, e := f()
		is(t, what, e, api.OK)
		isYard(t, what, again, copied)
		isList(t, what, acts, []permit.Act{move("b"), giveBack("a"), grant("c", "p")})
	}
}

// isKept fails a test if a list that a function returns is changed by what is done with
// an earlier one, or if this changes a yard.
func isKept[T comparable](t *testing.T, what string, y, want permit.Yard, f func() ([]T, api.Errno)) {
	t.Helper()
	first, e := f()
	is(t, what, e, api.OK)
	is(t, what+": is empty", len(first) == 0, false)
	isRoomy(t, what, y, want)
	copied := slices.Clone(first)
	clear(first[:cap(first)])
	isRoomy(t, what, y, want)
	again, _ := f()
	isList(t, what, again, copied)
}

// P9.1, P9.3, P9.4: lists share no memory with arguments or with earlier results, and
// arguments are not changed.
func TestMemoryOfLists(t *testing.T) {
	want := shown(4)
	y := roomy(want)
	goal, never := permit.Goal{Kind: "energized", Section: "p"}, permit.Goal{Kind: "dead", Section: "g"}
	for word, question := range questions() {
		isKept(t, word, y, want, func() ([]int, api.Errno) { return question.ask(y) })
	}
	isKept(t, "reached", y, want, func() ([]int, api.Errno) { return permit.Reached(y) })
	isKept(t, "barrier", y, want, func() ([]int, api.Errno) { return permit.Barrier(y, never) })
	isKept(t, "order", y, want, func() ([]string, api.Errno) { return permit.Order(y, goal) })
	isKept(t, "left", y, want, func() ([]string, api.Errno) { return permit.Left(y) })
	moves, states := []string{"i", "e", "b"}, []int{0, 1, 2, 3, 4, 5, 6}
	is(t, "moves", permit.CheckOrder(y, goal, moves), api.OK)
	is(t, "states", permit.CheckBarrier(y, never, states), api.OK)
	isRoomy(t, "after both", y, want)
	isList(t, "moves", moves, []string{"i", "e", "b"})
	isList(t, "states", states, []int{0, 1, 2, 3, 4, 5, 6})
}

// P9.1: the islands share no memory with each other.
func TestMemoryOfIslands(t *testing.T) {
	islands, _ := permit.Islands(lone(8))
	for i, l := range islands {
		_ = append(l, 9)
		clear(l[:cap(l)])
		for _, other := range islands[i+1:] {
			is(t, fmt.Sprint(islands), len(other) == 1 && other[0] > i, true)
		}
	}
}

// P9.4: a parsed yard shares no memory with an earlier one.
func TestMemoryOfTexts(t *testing.T) {
	y, _, _ := permit.Parse(text)
	spoiled(y)
	again, _, _ := permit.Parse(text)
	isYard(t, "parsed again", again, held(shown(4), 2, 2))
}
