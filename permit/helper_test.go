package permit_test

import (
	"fmt"
	"math"
	"math/rand"
	"slices"
	"strings"
	"testing"

	"bipole/api"
	"bipole/permit"
)

// is fails a test if a result is not the expected one.
func is[T comparable](t *testing.T, what string, got, want T) {
	t.Helper()
	if got != want {
		t.Errorf("%s: got %v, want %v", what, got, want)
	}
}

// isList fails a test if a list is not the expected one; nil and empty lists are equal.
func isList[T comparable](t *testing.T, what string, got, want []T) {
	t.Helper()
	if !slices.Equal(got, want) {
		t.Errorf("%s: got %v, want %v", what, got, want)
	}
}

// isYard fails a test if a yard is not the expected one.
func isYard(t *testing.T, what string, got, want permit.Yard) {
	t.Helper()
	isList(t, what+": sections", got.Sections, want.Sections)
	isList(t, what+": switches", got.Switches, want.Switches)
	isList(t, what+": permits", got.Permits, want.Permits)
}

// brief returns the beginning of the text of values.
func brief(l ...any) string {
	s := fmt.Sprint(l...)
	return s[:min(len(s), 300)]
}

// beyond returns integers that are not from low to high.
func beyond(low, high int) []int {
	return []int{low - 1, high + 1, -1 << 40, 1 << 40, math.MinInt, math.MaxInt}
}

// between returns a random integer from low to high.
func between(r *rand.Rand, low, high int) int {
	return low + r.Intn(high-low+1)
}

// sections returns sections with names, of which those with a * behind them are sources.
func sections(names string) []permit.Section {
	var l []permit.Section
	for _, name := range strings.Fields(names) {
		bare := strings.TrimSuffix(name, "*")
		l = append(l, permit.Section{Name: bare, Source: bare != name})
	}
	return l
}

func breaker(name string, a, b int) permit.Switch {
	return permit.Switch{Name: name, Kind: "breaker", A: a, B: b}
}

func isolator(name string, a, b int) permit.Switch {
	return permit.Switch{Name: name, Kind: "isolator", A: a, B: b}
}

func earth(name string, a int) permit.Switch {
	return permit.Switch{Name: name, Kind: "earth", A: a, B: -1}
}

// in returns a yard with its switches in a state, by the digits of this.
func in(state int, y permit.Yard) permit.Yard {
	y.Switches = slices.Clone(y.Switches)
	digits := []byte(fmt.Sprintf("%0*b", len(y.Switches), state))
	slices.Reverse(digits)
	for i := range y.Switches {
		y.Switches[i].Closed = digits[i] == '1'
	}
	return y
}

// held returns a yard with permits a, b and so on for sections.
func held(y permit.Yard, sections ...int) permit.Yard {
	y.Permits = nil
	for i, section := range sections {
		y.Permits = append(y.Permits, permit.Permit{Name: letters[i], Section: section})
	}
	return y
}

// letters are names.
var letters = []string{"a", "b", "c", "d", "e", "f", "g", "h", "i"}

// shown returns the yard Y of the chapter's examples in a state.
func shown(state int) permit.Yard {
	return in(state, permit.Yard{Sections: sections("g* m p"), Switches: []permit.Switch{breaker("b", 0, 1), isolator("i", 1, 2), earth("e", 2)}})
}

// twin returns a yard between the sources s and r in a state: from s the breaker b leads
// to l, from there the isolator i to m, and from there the isolator j to r; e earths m,
// and f earths l.
func twin(state int) permit.Yard {
	return in(state, permit.Yard{Sections: sections("s* l m r*"), Switches: []permit.Switch{breaker("b", 0, 1), isolator("i", 1, 2), isolator("j", 2, 3), earth("e", 2), earth("f", 1)}})
}

// wide returns a yard of eight sections in a row, the first of which is a source, that
// seven switches of a kind join, and an earth at the last one, in a state.
func wide(kind string, state int) permit.Yard {
	y := permit.Yard{Sections: sections("a* b c d e f g h")}
	for i := range 7 {
		y.Switches = append(y.Switches, permit.Switch{Name: letters[i], Kind: kind, A: i + 1, B: i})
	}
	y.Switches = append(y.Switches, earth("h", 7))
	return in(state, y)
}

// lone returns a yard of so many sections that are no sources, each with an earth that
// is closed.
func lone(number int) permit.Yard {
	y := permit.Yard{Sections: sections(strings.Join(letters[:number], " "))}
	for i := range number {
		y.Switches = append(y.Switches, earth(letters[i], i))
	}
	return in(1<<number-1, y)
}

// island returns the sections that can be reached from one over switches that are
// closed, or over all breakers, too.
func island(y permit.Yard, section int, bridged bool) map[int]bool {
	found := map[int]bool{}
	var visit func(i int)
	visit = func(i int) {
		if found[i] {
			return
		}
		found[i] = true
		for _, x := range y.Switches {
			if x.Kind == "earth" || !x.Closed && !(bridged && x.Kind == "breaker") {
				continue
			}
			if x.A == i {
				visit(x.B)
			}
			if x.B == i {
				visit(x.A)
			}
		}
	}
	visit(section)
	return found
}

// facts are what a section is, by the definitions.
type facts struct {
	energized, earthed, separated, secured bool
}

// factsOf returns what a section of a yard is.
func factsOf(y permit.Yard, section int) facts {
	f := facts{separated: true}
	for i := range island(y, section, false) {
		f.energized = f.energized || y.Sections[i].Source
		for _, x := range y.Switches {
			f.earthed = f.earthed || x.Kind == "earth" && x.Closed && x.A == i
		}
	}
	for i := range island(y, section, true) {
		f.separated = f.separated && !y.Sections[i].Source
	}
	f.secured = f.separated && f.earthed
	return f
}

// allFacts returns what all sections of a yard are.
func allFacts(y permit.Yard) []facts {
	l := make([]facts, len(y.Sections))
	for i := range l {
		l[i] = factsOf(y, i)
	}
	return l
}

// isSound reports whether a yard is sound, by the definition.
func isSound(y permit.Yard) bool {
	for _, f := range allFacts(y) {
		if f.energized && f.earthed {
			return false
		}
	}
	for _, x := range y.Permits {
		if !factsOf(y, x.Section).secured {
			return false
		}
	}
	return true
}

// lockOf returns the first lock of a switch of a yard, by the definition.
func lockOf(y permit.Yard, i int) string {
	after := moved(y, i)
	x := y.Switches[i]
	for k := range y.Sections {
		if x.Kind == "isolator" && factsOf(y, k).energized != factsOf(after, k).energized {
			return "load"
		}
	}
	for k := range y.Sections {
		if f := factsOf(after, k); f.energized && f.earthed {
			return "short"
		}
	}
	if x.Kind == "earth" && !x.Closed && !factsOf(y, x.A).separated {
		return "apart"
	}
	for _, p := range y.Permits {
		if !factsOf(after, p.Section).secured {
			return "permit"
		}
	}
	return ""
}

// moved returns a yard with a switch moved.
func moved(y permit.Yard, i int) permit.Yard {
	y.Switches = slices.Clone(y.Switches)
	y.Switches[i].Closed = !y.Switches[i].Closed
	return y
}

// stateOf returns the state of a yard, by the definition.
func stateOf(y permit.Yard) int {
	state := 0
	for i, x := range y.Switches {
		if x.Closed {
			state += int(math.Pow(2, float64(i)))
		}
	}
	return state
}

// nexts returns the states to which one move leads from a state of a yard, by their
// switches.
func nexts(y permit.Yard, state int) map[int]int {
	l := map[int]int{}
	for i := range y.Switches {
		if lockOf(in(state, y), i) == "" {
			l[i] = stateOf(moved(in(state, y), i))
		}
	}
	return l
}

// reachedFrom returns the states that are reached from the state of a yard, ascending.
func reachedFrom(y permit.Yard) []int {
	reached := []int{stateOf(y)}
	for i := 0; i < len(reached); i++ {
		for _, next := range nexts(y, reached[i]) {
			if !slices.Contains(reached, next) {
				reached = append(reached, next)
			}
		}
	}
	slices.Sort(reached)
	return reached
}

// holds reports whether a goal holds in a yard, by the definition.
func holds(y permit.Yard, g permit.Goal) bool {
	for i, x := range y.Sections {
		if f := factsOf(y, i); x.Name == g.Section {
			return g.Kind == "energized" && f.energized || g.Kind == "dead" && !f.energized || g.Kind == "secured" && f.secured
		}
	}
	panic("there is no such section")
}

// goalsOf returns all goals of a yard.
func goalsOf(y permit.Yard) []permit.Goal {
	var l []permit.Goal
	for _, kind := range []string{"energized", "dead", "secured"} {
		for _, x := range y.Sections {
			l = append(l, permit.Goal{Kind: kind, Section: x.Name})
		}
	}
	return l
}

// randomYard returns a yard that is sound, with up to so many switches, and with some
// permits.
func randomYard(r *rand.Rand, most int) permit.Yard {
	for {
		y := anywhere(r, most)
		if r.Intn(2) == 0 && most > 1 {
			y = fed(r, most)
		}
		closed := between(r, 1, 3)
		for i, name := range r.Perm(len(y.Switches)) {
			y.Switches[i].Name = letters[name]
			y.Switches[i].Closed = r.Intn(4) < closed
		}
		if isSound(y) {
			return granted(r, y)
		}
	}
}

// line returns a breaker or an isolator.
func line(r *rand.Rand, a, b int) permit.Switch {
	return permit.Switch{Kind: []string{"breaker", "isolator"}[r.Intn(2)], A: a, B: b}
}

// anywhere returns a yard with up to so many switches between any sections.
func anywhere(r *rand.Rand, most int) permit.Yard {
	y := permit.Yard{Sections: sections(strings.Join(letters[:between(r, 1, []int{2, 4, 8}[r.Intn(3)])], " "))}
	n := len(y.Sections)
	for i := range y.Sections {
		y.Sections[i].Source = r.Intn(n+1) == 0
	}
	for range between(r, 0, most) {
		a := r.Intn(n)
		x := earth("", a)
		if b := []int{r.Intn(n), (a + 1) % n}[r.Intn(2)]; b != a && r.Intn(4) > 0 {
			x = line(r, a, b)
		}
		y.Switches = append(y.Switches, x)
	}
	return y
}

// fed returns a yard with up to so many switches, at least 2, of which some join a source
// with all other sections, and others are earths of these.
func fed(r *rand.Rand, most int) permit.Yard {
	n := between(r, 2, min(5, most))
	y := permit.Yard{Sections: sections("a b c d e")[:n]}
	order := r.Perm(n)
	for i, section := range order {
		y.Sections[section].Source = i == 0
	}
	for i, section := range order[1:] {
		y.Switches = append(y.Switches, line(r, order[r.Intn(i+1)], section))
	}
	for len(y.Switches) < most && r.Intn(5) > 0 {
		y.Switches = append(y.Switches, earth("", order[between(r, 1, n-1)]))
	}
	r.Shuffle(len(y.Switches), func(i, k int) { y.Switches[i], y.Switches[k] = y.Switches[k], y.Switches[i] })
	return y
}

// granted returns a yard with some permits for secured sections.
func granted(r *rand.Rand, y permit.Yard) permit.Yard {
	many := 2 * r.Intn(4)
	for _, i := range r.Perm(8) {
		if section := r.Intn(len(y.Sections)); r.Intn(8) < many && factsOf(y, section).secured {
			y.Permits = append(y.Permits, permit.Permit{Name: letters[i], Section: section})
		}
	}
	return y
}

// badNames are strings that are no names.
var badNames = []string{"", "1", "_a", "a b", "a-", "ä", "m\n", strings.Repeat("m", 25)}

// badSections returns lists of sections by their errors.
func badSections() map[api.Errno][][]permit.Section {
	l := map[api.Errno][][]permit.Section{
		api.ErrEmpty: {nil, {}},
		api.ErrMany:  {sections("a b c d e f g h i"), make([]permit.Section, 9), make([]permit.Section, 1000)},
		api.ErrTwice: {sections("a a"), sections("a b a*"), sections("a* b c d e f g a"), append(sections("b b"), permit.Section{})},
	}
	for _, name := range badNames {
		bad := permit.Section{Name: name}
		l[api.ErrName] = append(l[api.ErrName], []permit.Section{bad}, []permit.Section{bad, bad}, append(sections("g* m"), bad), append(sections("g* m"), bad, permit.Section{Name: "m"}))
	}
	return l
}

// badSwitches returns lists of switches by the errors that they have in a yard of three
// sections.
func badSwitches() map[api.Errno][][]permit.Switch {
	good := shown(0).Switches
	l := map[api.Errno][][]permit.Switch{
		api.ErrMany: {make([]permit.Switch, 9), make([]permit.Switch, 1000), append(lone(8).Switches, earth("i", 0))},
	}
	add := func(e api.Errno, bad ...permit.Switch) {
		for _, x := range bad {
			l[e] = append(l[e], []permit.Switch{x}, append(slices.Clone(good), x), append(slices.Clone(good), x, breaker("", 0, 1), isolator("i", 0, 0)), append([]permit.Switch{isolator("z", 2, 0)}, x))
		}
	}
	for _, name := range badNames {
		add(api.ErrName, breaker(name, 0, 1), earth(name, 2), isolator(name, 3, -1), permit.Switch{Name: name, Kind: "none", A: 5, B: 5})
	}
	for _, kind := range []string{"", "Breaker", "breakers", "section", "permit", "isolator ", "\x00"} {
		add(api.ErrKind, permit.Switch{Name: "x", Kind: kind, B: 1}, permit.Switch{Name: "x", Kind: kind, B: -1}, permit.Switch{Name: "x", Kind: kind, A: 3, B: 3})
	}
	for _, n := range beyond(0, 2) {
		add(api.ErrUnknown, breaker("x", n, 0), isolator("x", n, n), earth("x", n), breaker("x", 0, n), isolator("x", 2, n), permit.Switch{Name: "x", Kind: "earth", A: n, B: 0}, permit.Switch{Name: "x", Kind: "earth", A: n, B: n})
	}
	for n := range 3 {
		add(api.ErrConflict, breaker("x", n, n), isolator("x", n, n), permit.Switch{Name: "x", Kind: "earth", A: n, B: n})
		for _, other := range []int{0, 1, 2, 3, -2, 1 << 40, math.MinInt, math.MaxInt} {
			add(api.ErrConflict, permit.Switch{Name: "x", Kind: "earth", A: n, B: other})
		}
	}
	for _, x := range []permit.Switch{isolator("i", 0, 1), earth("b", 2), {Name: "e", Kind: "none", A: 5, B: 5}, breaker("b", 1, 1)} {
		l[api.ErrTwice] = append(l[api.ErrTwice], append(slices.Clone(good), x), append(slices.Clone(good), x, breaker("", 0, 1)))
	}
	return l
}

// badPermits returns lists of permits by the errors that they have in a yard of three
// sections.
func badPermits() map[api.Errno][][]permit.Permit {
	good := []permit.Permit{{Name: "k", Section: 2}, {Name: "l", Section: 2}}
	behind := func(x ...permit.Permit) []permit.Permit { return append(slices.Clone(good), x...) }
	l := map[api.Errno][][]permit.Permit{
		api.ErrMany:  {make([]permit.Permit, 9), make([]permit.Permit, 1000), held(shown(0), 2, 2, 2, 2, 2, 2, 2, 2, 2).Permits},
		api.ErrTwice: {behind(permit.Permit{Name: "k", Section: 2}), behind(permit.Permit{Name: "l", Section: 5}, permit.Permit{}), {good[0], good[0]}},
	}
	for _, name := range badNames {
		l[api.ErrName] = append(l[api.ErrName], []permit.Permit{{Name: name, Section: 2}}, behind(permit.Permit{Name: name, Section: 3}), behind(permit.Permit{Name: name}, good[0]))
	}
	for _, n := range beyond(0, 2) {
		l[api.ErrUnknown] = append(l[api.ErrUnknown], []permit.Permit{{Name: "k", Section: n}}, behind(permit.Permit{Name: "m", Section: n}), behind(permit.Permit{Name: "m", Section: n}, good[1]))
	}
	return l
}

// unsound returns yards that are not sound.
func unsound() []permit.Yard {
	source := permit.Yard{Sections: sections("a*"), Switches: []permit.Switch{earth("e", 0)}}
	return []permit.Yard{
		shown(7), in(1, source), twin(0b01100), twin(0b10001), twin(0b10111), twin(0b11111), wide("breaker", 255), wide("isolator", 255),
		held(shown(0), 2), held(shown(3), 2), held(shown(4), 1), held(shown(4), 0), held(shown(5), 1), held(shown(5), 2, 1), held(shown(6), 2), held(shown(6), 1), held(shown(6), 2, 2), held(shown(7), 2),
		held(in(0, source), 0), held(twin(0b11010), 2), held(twin(0b10010), 1), held(twin(0b11000), 1), held(wide("breaker", 128), 7), held(wide("isolator", 128), 6), held(in(127, lone(8)), 0, 7),
	}
}

// eachBadYard calls a function with yards and with the error that they have.
func eachBadYard(f func(what string, y permit.Yard, e api.Errno)) {
	call := func(y permit.Yard, e api.Errno) { f(brief("the yard ", y), y, e) }
	badEnd := append(shown(4).Switches, breaker("", 9, 9))
	for e, lists := range badSections() {
		for _, l := range lists {
			call(permit.Yard{Sections: l}, e)
			call(permit.Yard{Sections: l, Switches: shown(7).Switches}, e)
			call(permit.Yard{Sections: l, Switches: badEnd, Permits: make([]permit.Permit, 9)}, e)
			call(permit.Yard{Sections: l, Switches: make([]permit.Switch, 70)}, e)
		}
	}
	for e, lists := range badSwitches() {
		for _, l := range lists {
			call(permit.Yard{Sections: sections("g* m p"), Switches: l}, e)
			call(permit.Yard{Sections: sections("g m p"), Switches: l, Permits: []permit.Permit{{Name: "k", Section: 0}}}, e)
			call(permit.Yard{Sections: sections("g* m p"), Switches: l, Permits: make([]permit.Permit, 9)}, e)
		}
	}
	for e, lists := range badPermits() {
		for _, l := range lists {
			y, short := shown(4), shown(7)
			y.Permits, short.Permits = l, l
			call(y, e)
			call(short, e)
		}
	}
	for _, y := range unsound() {
		call(y, api.ErrState)
	}
}

// badGoals returns goals by the errors that they have in the yard Y.
func badGoals() map[api.Errno][]permit.Goal {
	l := map[api.Errno][]permit.Goal{}
	for _, kind := range []string{"", "Dead", "earthed", "separated", "deadly", "secured ", "\x00"} {
		l[api.ErrKind] = append(l[api.ErrKind], permit.Goal{Kind: kind, Section: "p"}, permit.Goal{Kind: kind, Section: "none"})
	}
	for _, section := range []string{"", "b", "e", "G", "gm", "p ", "2", strings.Repeat("p", 25)} {
		l[api.ErrUnknown] = append(l[api.ErrUnknown], permit.Goal{Kind: "energized", Section: section}, permit.Goal{Kind: "dead", Section: section}, permit.Goal{Kind: "secured", Section: section})
	}
	return l
}

// eachBadGoal calls a function with a yard and a goal, and with the error that they have.
func eachBadGoal(f func(what string, y permit.Yard, g permit.Goal, e api.Errno)) {
	eachBadYard(func(what string, y permit.Yard, e api.Errno) {
		f(what, y, permit.Goal{Kind: "energized", Section: "g"}, e)
		f(what, y, permit.Goal{Kind: "none", Section: "none"}, e)
	})
	for e, goals := range badGoals() {
		for _, g := range goals {
			f(fmt.Sprint("the goal ", g), shown(4), g, e)
		}
	}
}
