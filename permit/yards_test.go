package permit_test

import (
	"fmt"
	"math/rand"
	"slices"
	"strings"
	"testing"

	"bipole/api"
	"bipole/permit"
)

// P9.1
func TestCheckYard(t *testing.T) {
	eachBadYard(func(what string, y permit.Yard, e api.Errno) {
		is(t, what, permit.CheckYard(y), e)
	})
	longest := strings.Repeat("m", 24)
	same := permit.Yard{Sections: sections("x"), Switches: []permit.Switch{earth("x", 0)}, Permits: []permit.Permit{{Name: "x"}}}
	for _, y := range []permit.Yard{
		shown(0), shown(1), shown(2), shown(3), shown(4), shown(5), shown(6), held(shown(4), 2), held(shown(5), 2, 2, 2, 2, 2, 2, 2, 2),
		{Sections: sections("a")}, {Sections: sections("a*")}, {Sections: sections("a* b* c* d* e* f* g* h*")}, in(1, same), // a section, a switch and a permit may have the same name
		{Sections: sections(longest + " m"), Switches: []permit.Switch{breaker(longest, 0, 1), isolator("m", 1, 0)}},
		held(lone(8), 0, 1, 2, 3, 4, 5, 6, 7), held(lone(1), 0, 0), twin(0b11010), twin(0b01010), held(twin(0b11000), 2), held(twin(0b01001), 2), wide("breaker", 127), wide("isolator", 128), held(wide("isolator", 128), 7), held(wide("isolator", 191), 7),
	} {
		is(t, fmt.Sprint(y), permit.CheckYard(y), api.OK)
	}
}

// P9.1: a yard is sound by the definition.
func TestSoundYards(t *testing.T) {
	for _, y := range unsound() {
		is(t, fmt.Sprint(y), isSound(y), false)
	}
	r := rand.New(rand.NewSource(911))
	seen := map[string]int{}
	for range 10000 {
		y := randomYard(r, 8)
		y = in(r.Intn(1<<len(y.Switches)), y)
		e := api.OK
		if !isSound(y) {
			e = api.ErrState
		}
		is(t, fmt.Sprint(y), permit.CheckYard(y), e)
		bare := y
		bare.Permits = nil
		seen[fmt.Sprint(e, len(y.Permits) > 0, isSound(bare))]++
	}
	for _, result := range []string{"0 false true", "0 true true", "22 false false", "22 true false", "22 true true"} {
		if seen[result] < 30 {
			t.Errorf("the results are %v", seen)
		}
	}
}

// isIslands fails a test if the islands of a yard, or its error, are not the expected
// ones.
func isIslands(t *testing.T, what string, y permit.Yard, want [][]int, wanted api.Errno) {
	t.Helper()
	islands, e := permit.Islands(y)
	is(t, what+": number of islands", len(islands), len(want))
	for i, l := range want[:min(len(islands), len(want))] {
		isList(t, what, islands[i], l)
	}
	is(t, what, e, wanted)
}

// P9.1
func TestIslands(t *testing.T) {
	eachBadYard(func(what string, y permit.Yard, e api.Errno) {
		isIslands(t, what, y, nil, e)
	})
	for state, want := range [][][]int{{{0}, {1}, {2}}, {{0, 1}, {2}}, {{0}, {1, 2}}, {{0, 1, 2}}, {{0}, {1}, {2}}, {{0, 1}, {2}}, {{0}, {1, 2}}} {
		isIslands(t, fmt.Sprint("the state ", state), shown(state), want, api.OK)
	}
	crossed := permit.Yard{Sections: sections("a b c d e f"), Switches: []permit.Switch{breaker("b", 5, 0), isolator("i", 4, 2), breaker("c", 2, 3), isolator("j", 5, 3)}}
	isIslands(t, "all open", in(0, crossed), [][]int{{0}, {1}, {2}, {3}, {4}, {5}}, api.OK)
	isIslands(t, "two islands", in(7, crossed), [][]int{{0, 5}, {1}, {2, 3, 4}}, api.OK)
	isIslands(t, "joined at last", in(15, crossed), [][]int{{0, 2, 3, 4, 5}, {1}}, api.OK)
	isIslands(t, "a ring", in(15, permit.Yard{Sections: sections("a b c"), Switches: []permit.Switch{breaker("b", 0, 1), breaker("c", 1, 2), isolator("i", 0, 2), isolator("j", 2, 0)}}), [][]int{{0, 1, 2}}, api.OK)
	isIslands(t, "a row", wide("isolator", 127), [][]int{{0, 1, 2, 3, 4, 5, 6, 7}}, api.OK)
	isIslands(t, "a row cut in two", wide("breaker", 127-8), [][]int{{0, 1, 2, 3}, {4, 5, 6, 7}}, api.OK)
	isIslands(t, "one", lone(1), [][]int{{0}}, api.OK)
}

// questions returns the functions that return sections, with the facts that these have.
func questions() map[string]struct {
	ask func(permit.Yard) ([]int, api.Errno)
	of  func(facts) bool
} {
	return map[string]struct {
		ask func(permit.Yard) ([]int, api.Errno)
		of  func(facts) bool
	}{
		"energized": {permit.Energized, func(f facts) bool { return f.energized }},
		"earthed":   {permit.Earthed, func(f facts) bool { return f.earthed }},
		"separated": {permit.Separated, func(f facts) bool { return f.separated }},
		"secured":   {permit.Secured, func(f facts) bool { return f.secured }},
	}
}

// P9.1
func TestSections(t *testing.T) {
	for word, question := range questions() {
		eachBadYard(func(what string, y permit.Yard, want api.Errno) {
			l, e := question.ask(y)
			isList(t, word+" of "+what, l, nil)
			is(t, word+" of "+what, e, want)
		})
	}
	for _, x := range []struct {
		y    permit.Yard
		want map[string][]int
	}{
		{shown(3), map[string][]int{"energized": {0, 1, 2}}},
		{shown(2), map[string][]int{"energized": {0}}},
		{shown(1), map[string][]int{"energized": {0, 1}, "separated": {2}}},
		{shown(0), map[string][]int{"energized": {0}, "separated": {2}}},
		{shown(4), map[string][]int{"energized": {0}, "earthed": {2}, "separated": {2}, "secured": {2}}},
		{shown(5), map[string][]int{"energized": {0, 1}, "earthed": {2}, "separated": {2}, "secured": {2}}},
		{shown(6), map[string][]int{"energized": {0}, "earthed": {1, 2}}},
		{lone(3), map[string][]int{"earthed": {0, 1, 2}, "separated": {0, 1, 2}, "secured": {0, 1, 2}}},
		{in(5, lone(4)), map[string][]int{"earthed": {0, 2}, "separated": {0, 1, 2, 3}, "secured": {0, 2}}},
		{twin(0b00100), map[string][]int{"energized": {0, 2, 3}}},
		{twin(0b01001), map[string][]int{"energized": {0, 1, 3}, "earthed": {2}, "separated": {2}, "secured": {2}}},
		{twin(0b01010), map[string][]int{"energized": {0, 3}, "earthed": {1, 2}}},
		{twin(0b11000), map[string][]int{"energized": {0, 3}, "earthed": {1, 2}, "separated": {2}, "secured": {2}}},
		{wide("breaker", 128), map[string][]int{"energized": {0}, "earthed": {7}}},
		{wide("isolator", 128+64), map[string][]int{"energized": {0}, "earthed": {6, 7}, "separated": {1, 2, 3, 4, 5, 6, 7}, "secured": {6, 7}}},
	} {
		for word, question := range questions() {
			l, e := question.ask(x.y)
			isList(t, word+fmt.Sprint(" of ", x.y), l, x.want[word])
			is(t, word+fmt.Sprint(" of ", x.y), e, api.OK)
		}
	}
}

// P9.1: islands and sections are those of the definitions.
func TestSectionsOfMany(t *testing.T) {
	r := rand.New(rand.NewSource(912))
	seen := map[string]int{}
	for range 5000 {
		y := randomYard(r, 8)
		what := fmt.Sprint(y)
		all := allFacts(y)
		for word, question := range questions() {
			var want []int
			for i, f := range all {
				if question.of(f) {
					want = append(want, i)
					seen[word]++
				}
			}
			l, e := question.ask(y)
			isList(t, word+" of "+what, l, want)
			is(t, word+" of "+what, e, api.OK)
		}
		var islands [][]int
		for i := range y.Sections {
			var l []int
			joined := island(y, i, false)
			for k := range y.Sections {
				if joined[k] {
					l = append(l, k)
				}
			}
			if l[0] == i {
				islands = append(islands, l)
			}
		}
		isIslands(t, what, y, islands, api.OK)
	}
	for word := range questions() {
		if seen[word] < 1000 {
			t.Errorf("the sections are %v", seen)
		}
	}
}

// isLeft fails a test if the earths of a yard that are left, or its error, are not the
// expected ones.
func isLeft(t *testing.T, y permit.Yard, want []string, wanted api.Errno) {
	t.Helper()
	names, e := permit.Left(y)
	isList(t, brief("left in ", y), names, want)
	is(t, brief("left in ", y), e, wanted)
}

// P9.1: an earth is not left if any section of its island has a permit.
func TestLeft(t *testing.T) {
	eachBadYard(func(_ string, y permit.Yard, e api.Errno) {
		isLeft(t, y, nil, e)
	})
	for state := range 7 {
		var want []string
		if state >= 4 {
			want = []string{"e"}
		}
		isLeft(t, shown(state), want, api.OK)
	}
	isLeft(t, held(shown(4), 2), nil, api.OK)
	isLeft(t, held(shown(5), 2, 2), nil, api.OK)
	isLeft(t, lone(8), letters[:8], api.OK)
	isLeft(t, held(lone(8), 7, 1, 4, 1), []string{"a", "c", "d", "f", "g"}, api.OK)
	isLeft(t, held(wide("isolator", 128+64+32), 5), nil, api.OK)
	isLeft(t, held(wide("isolator", 128+64), 6), nil, api.OK)
	isLeft(t, twin(0b11010), []string{"e", "f"}, api.OK)
	isLeft(t, held(twin(0b11000), 2), []string{"f"}, api.OK)
	backwards := permit.Yard{Sections: sections("a b"), Switches: []permit.Switch{earth("z", 1), breaker("m", 0, 1), earth("a", 0), earth("y", 1), earth("b", 0)}}
	isLeft(t, in(0b11111, backwards), []string{"z", "a", "y", "b"}, api.OK)
	isLeft(t, in(0b10101, backwards), []string{"z", "a", "b"}, api.OK)
	isLeft(t, held(in(0b11101, backwards), 1), []string{"a", "b"}, api.OK)
	isLeft(t, held(in(0b11111, backwards), 1), nil, api.OK)
}

// P9.1: the earths that are left are those of the definition.
func TestLeftOfMany(t *testing.T) {
	r := rand.New(rand.NewSource(913))
	left, kept := 0, 0
	for range 5000 {
		y := randomYard(r, 8)
		var want []string
		for _, x := range y.Switches {
			if x.Kind != "earth" || !x.Closed {
				continue
			}
			if slices.ContainsFunc(y.Permits, func(p permit.Permit) bool { return island(y, x.A, false)[p.Section] }) {
				kept++
				continue
			}
			left++
			want = append(want, x.Name)
		}
		isLeft(t, y, want, api.OK)
	}
	if left < 500 || kept < 500 {
		t.Errorf("%d earths are left and %d are not", left, kept)
	}
}
