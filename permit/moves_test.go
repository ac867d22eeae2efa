package permit_test

import (
	"fmt"
	"math/rand"
	"slices"
	"testing"

	"bipole/api"
	"bipole/permit"
)

// isWhy fails a test if the first lock of a switch, or its error, are not the expected
// ones, or if the switch does not move as they say.
func isWhy(t *testing.T, y permit.Yard, name, want string, wanted api.Errno) {
	t.Helper()
	what := brief(name, " of ", y)
	lock, e := permit.Why(y, name)
	is(t, what+": lock", lock, want)
	is(t, what+": error", e, wanted)
	if want != "" {
		wanted = api.ErrRule
	}
	after, e := permit.Move(y, name)
	is(t, what+": error of the move", e, wanted)
	if wanted != api.OK {
		isYard(t, what, after, permit.Yard{})
		return
	}
	i := slices.IndexFunc(y.Switches, func(x permit.Switch) bool { return x.Name == name })
	isYard(t, what, after, moved(y, i))
}

// P9.2
func TestMoves(t *testing.T) {
	eachBadYard(func(_ string, y permit.Yard, e api.Errno) {
		isWhy(t, y, "b", "", e)
		isWhy(t, y, "none", "", e)
	})
	for _, name := range []string{"", "B", "bb", "g", "m", "p", "load", "b ", "0", "\xff"} {
		isWhy(t, shown(0), name, "", api.ErrUnknown)
		isWhy(t, held(shown(4), 2), name, "", api.ErrUnknown)
	}
	isWhy(t, held(shown(4), 2), "a", "", api.ErrUnknown) // the name of a permit
	isWhy(t, permit.Yard{Sections: sections("a")}, "a", "", api.ErrUnknown)
	for state, locks := range [][3]string{{"", "", ""}, {"", "load", ""}, {"", "", "apart"}, {"", "load", "short"}, {"", "", ""}, {"", "load", ""}, {"short", "", ""}} {
		for i, name := range []string{"b", "i", "e"} {
			isWhy(t, shown(state), name, locks[i], api.OK)
		}
	}
	for state, locks := range map[int][3]string{4: {"", "permit", "permit"}, 5: {"", "load", "permit"}} {
		for i, name := range []string{"b", "i", "e"} {
			isWhy(t, held(shown(state), 2), name, locks[i], api.OK)
			isWhy(t, held(shown(state), 2, 2), name, locks[i], api.OK)
		}
	}
}

// P9.2: the first one of several locks is named.
func TestFirstLock(t *testing.T) {
	isWhy(t, twin(0b01001), "i", "load", api.OK)  // and short
	isWhy(t, twin(0b01001), "j", "load", api.OK)  // and short
	isWhy(t, twin(0b00010), "j", "load", api.OK)  // m and l are energized
	isWhy(t, twin(0b00101), "i", "", api.OK)      // both ends are energized before and after
	isWhy(t, twin(0b00111), "i", "", api.OK)      // likewise, if it is opened
	isWhy(t, twin(0b00111), "j", "", api.OK)      // likewise
	isWhy(t, twin(0b00111), "b", "", api.OK)      // likewise
	isWhy(t, twin(0b00110), "i", "load", api.OK)  // l is not any more
	isWhy(t, twin(0b00001), "f", "short", api.OK) // and apart
	isWhy(t, twin(0b00000), "f", "apart", api.OK) // behind a breaker alone
	isWhy(t, twin(0b00010), "e", "apart", api.OK) // behind a breaker and an isolator that is closed
	isWhy(t, twin(0b00000), "e", "", api.OK)
	isWhy(t, twin(0b10000), "f", "", api.OK) // an earth may be opened where it could not be closed
	isWhy(t, twin(0b10010), "b", "short", api.OK)
	isWhy(t, twin(0b10000), "j", "load", api.OK)
	isWhy(t, twin(0b11000), "i", "", api.OK)
	isWhy(t, held(twin(0b11000), 2), "i", "permit", api.OK)
	isWhy(t, held(twin(0b11000), 2), "j", "load", api.OK)  // short and permit, too
	isWhy(t, held(twin(0b11000), 2), "b", "short", api.OK) // not m, which has the permit
	isWhy(t, held(twin(0b11000), 2), "e", "permit", api.OK)
	isWhy(t, held(twin(0b11000), 2), "f", "", api.OK)
	isWhy(t, held(twin(0b01000), 2), "b", "", api.OK)
	rest := permit.Yard{Sections: sections("s* a b"), Switches: []permit.Switch{breaker("b", 1, 2), isolator("i", 0, 1), earth("e", 2), earth("f", 1)}}
	isWhy(t, held(in(0b0101, rest), 1), "b", "permit", api.OK) // a would not be earthed any more
	isWhy(t, held(in(0b1101, rest), 1), "b", "", api.OK)
	isWhy(t, held(in(0b1101, rest), 1), "e", "", api.OK)
	isWhy(t, held(in(0b0101, rest), 1), "e", "permit", api.OK)
	isWhy(t, held(in(0b0100, rest), 2), "b", "", api.OK)
	isWhy(t, held(in(0b0100, rest), 2), "i", "load", api.OK)
	dead := permit.Yard{Sections: sections("a b"), Switches: []permit.Switch{isolator("i", 1, 0), breaker("b", 0, 1), earth("e", 0)}}
	for state := range 8 {
		for _, name := range []string{"i", "b", "e"} {
			isWhy(t, in(state, dead), name, "", api.OK)
		}
	}
	two := permit.Yard{Sections: sections("a* b*"), Switches: []permit.Switch{isolator("i", 0, 1), earth("e", 1)}}
	isWhy(t, in(0, two), "i", "", api.OK)
	isWhy(t, in(1, two), "i", "", api.OK)
	isWhy(t, in(0, two), "e", "short", api.OK)
}

// P9.2: the first lock of any switch is that of the definition.
func TestMovesOfMany(t *testing.T) {
	r := rand.New(rand.NewSource(921))
	seen := map[string]int{}
	for range 4000 {
		y := randomYard(r, 8)
		for i, x := range y.Switches {
			want := lockOf(y, i)
			isWhy(t, y, x.Name, want, api.OK)
			seen[fmt.Sprint(want, " ", x.Kind, " ", x.Closed)]++
		}
	}
	for _, result := range []string{ // closing a breaker leaves secured what is secured
		" breaker true", " breaker false", "short breaker false", "permit breaker true",
		" isolator true", " isolator false", "load isolator true", "load isolator false", "permit isolator true", "permit isolator false",
		" earth true", " earth false", "short earth false", "apart earth false", "permit earth true",
	} {
		if seen[result] < 10 {
			t.Errorf("%s: the results are %v", result, seen)
		}
	}
}

// isGranted fails a test if what Grant returns is not the expected error, or the yard
// with the permit.
func isGranted(t *testing.T, y permit.Yard, name, section string, want api.Errno) {
	t.Helper()
	what := brief(name, " for ", section, " of ", y)
	after, e := permit.Grant(y, name, section)
	is(t, what, e, want)
	if want != api.OK {
		isYard(t, what, after, permit.Yard{})
		return
	}
	i := slices.IndexFunc(y.Sections, func(x permit.Section) bool { return x.Name == section })
	wanted := y
	wanted.Permits = append(slices.Clone(y.Permits), permit.Permit{Name: name, Section: i})
	isYard(t, what, after, wanted)
}

// P9.2
func TestGrant(t *testing.T) {
	eachBadYard(func(_ string, y permit.Yard, e api.Errno) {
		isGranted(t, y, "k", "m", e)
		isGranted(t, y, "", "", e)
	})
	full := held(shown(4), 2, 2, 2, 2, 2, 2, 2, 2)
	for _, name := range badNames {
		isGranted(t, shown(4), name, "p", api.ErrName)
		isGranted(t, shown(4), name, "none", api.ErrName)
		isGranted(t, full, name, "m", api.ErrName)
	}
	for _, y := range []permit.Yard{held(shown(4), 2, 2), full} {
		isGranted(t, y, "a", "p", api.ErrTwice)
		isGranted(t, y, "b", "none", api.ErrTwice)
		isGranted(t, y, "b", "m", api.ErrTwice)
	}
	for _, section := range []string{"", "P", "b", "e", "a", "pp", "2", "\xff"} {
		isGranted(t, held(shown(4), 2), "k", section, api.ErrUnknown)
		isGranted(t, shown(3), "k", section, api.ErrUnknown)
		isGranted(t, full, "k", section, api.ErrUnknown)
	}
	for state := range 7 {
		for _, section := range []string{"g", "m", "p"} {
			e := api.ErrRule
			if section == "p" && (state == 4 || state == 5) {
				e = api.OK
			}
			isGranted(t, shown(state), "k", section, e)
			isGranted(t, shown(state), "p", section, e) // the names of permits are their own
		}
	}
	isGranted(t, full, "k", "m", api.ErrRule)
	isGranted(t, full, "k", "p", api.ErrMany)
	isGranted(t, held(shown(4), 2, 2, 2, 2, 2, 2, 2), "h", "p", api.OK)
	isGranted(t, held(lone(8), 7, 0), "z", "d", api.OK)
}

// isReturned fails a test if what Return returns is not the expected error, or the yard
// with the expected permits.
func isReturned(t *testing.T, y permit.Yard, name string, permits []permit.Permit, want api.Errno) {
	t.Helper()
	what := brief("without ", name, " of ", y)
	after, e := permit.Return(y, name)
	is(t, what, e, want)
	if want != api.OK {
		isYard(t, what, after, permit.Yard{})
		return
	}
	wanted := y
	wanted.Permits = permits
	isYard(t, what, after, wanted)
}

// P9.2
func TestReturn(t *testing.T) {
	eachBadYard(func(_ string, y permit.Yard, e api.Errno) {
		isReturned(t, y, "k", nil, e)
		isReturned(t, y, "", nil, e)
	})
	y := held(shown(4), 2, 2, 2)
	l := y.Permits
	isReturned(t, y, "a", l[1:], api.OK)
	isReturned(t, y, "b", []permit.Permit{l[0], l[2]}, api.OK)
	isReturned(t, y, "c", l[:2], api.OK)
	isReturned(t, held(shown(4), 2), "a", nil, api.OK)
	isReturned(t, held(lone(8), 4, 3, 3, 0, 7, 7, 7, 3), "d", []permit.Permit{{Name: "a", Section: 4}, {Name: "b", Section: 3}, {Name: "c", Section: 3}, {Name: "e", Section: 7}, {Name: "f", Section: 7}, {Name: "g", Section: 7}, {Name: "h", Section: 3}}, api.OK)
	for _, name := range []string{"", "A", "d", "aa", "p", "m", "i", "e", "\xff"} {
		isReturned(t, y, name, nil, api.ErrUnknown)
		isReturned(t, shown(3), name, nil, api.ErrUnknown)
	}
	isReturned(t, shown(4), "a", nil, api.ErrUnknown)
}

// isPlayed fails a test if what Play returns is not the expected result.
func isPlayed(t *testing.T, y permit.Yard, l []permit.Act, want permit.Yard, index int, wanted api.Errno) {
	t.Helper()
	what := brief(l, " in ", y)
	after, at, e := permit.Play(y, l)
	isYard(t, what, after, want)
	is(t, what+": index", at, index)
	is(t, what+": error", e, wanted)
}

func move(name string) permit.Act { return permit.Act{Kind: "move", Name: name} }

func grant(name, section string) permit.Act {
	return permit.Act{Kind: "grant", Name: name, Section: section}
}

func giveBack(name string) permit.Act { return permit.Act{Kind: "return", Name: name} }

// P9.2
func TestPlay(t *testing.T) {
	many := slices.Repeat([]permit.Act{move("b")}, 65)
	eachBadYard(func(_ string, y permit.Yard, e api.Errno) {
		isPlayed(t, y, nil, permit.Yard{}, 0, e)
		isPlayed(t, y, many, permit.Yard{}, 0, e)
	})
	isPlayed(t, shown(3), many, permit.Yard{}, 0, api.ErrMany)
	isPlayed(t, shown(3), many[:64], shown(3), 0, api.OK)
	isPlayed(t, shown(3), many[:63], shown(2), 0, api.OK)
	isPlayed(t, shown(3), make([]permit.Act, 1000), permit.Yard{}, 0, api.ErrMany)
	isPlayed(t, shown(3), nil, shown(3), 0, api.OK)
	isPlayed(t, held(shown(5), 2), nil, held(shown(5), 2), 0, api.OK)
	work := []permit.Act{move("b"), move("i"), move("e"), grant("a", "p"), grant("c", "p"), move("b"), giveBack("a"), giveBack("c"), grant("a", "p"), giveBack("a"), move("e"), move("b"), move("i"), move("b")}
	for n, want := range []permit.Yard{shown(3), shown(2), shown(0), shown(4), held(shown(4), 2), held(shown(4), 2, 2), held(shown(5), 2, 2), held(shown(5), 2), shown(5), held(shown(5), 2), shown(5), shown(1), shown(0), shown(2), shown(3)} {
		if n > 4 && n < 8 {
			want.Permits = []permit.Permit{{Name: "a", Section: 2}, {Name: "c", Section: 2}}[max(0, n-6):]
		}
		isPlayed(t, shown(3), work[:n], want, 0, api.OK)
	}
}

// badActs returns acts by the errors that they have in the yard Y in the state 4, with
// the permit a for p.
func badActs() map[api.Errno][]permit.Act {
	l := map[api.Errno][]permit.Act{
		api.ErrForm: {
			{Kind: "move", Name: "b", Section: "p"}, {Kind: "move", Name: "none", Section: " "}, {Kind: "move", Name: "i", Section: "none"}, {Kind: "move", Section: "b"},
			{Kind: "return", Name: "a", Section: "p"}, {Kind: "return", Name: "none", Section: "p"}, {Kind: "return", Section: "a"},
		},
		api.ErrUnknown: {move("none"), move(""), move("a"), move("p"), giveBack("none"), giveBack(""), giveBack("b"), giveBack("p"), grant("k", "none"), grant("k", ""), grant("b", "b")},
		api.ErrRule:    {move("i"), move("e"), grant("k", "m"), grant("k", "g")},
		api.ErrName:    {grant("", "p"), grant("1", "none"), grant("", ""), {Kind: "grant"}},
		api.ErrTwice:   {grant("a", "p"), grant("a", "none"), grant("a", "m")},
	}
	for _, kind := range []string{"", "Move", "moves", "close", "grant ", "returned", "\x00"} {
		l[api.ErrKind] = append(l[api.ErrKind], permit.Act{Kind: kind, Name: "b"}, permit.Act{Kind: kind, Name: "none", Section: "p"}, permit.Act{Kind: kind, Name: "k", Section: "p"}, permit.Act{Kind: kind})
	}
	return l
}

// P9.2: the first act that has an error after those before it decides.
func TestPlayOfBadActs(t *testing.T) {
	y := held(shown(4), 2)
	before := []permit.Act{move("b"), grant("c", "p"), giveBack("c"), move("b")}
	for e, acts := range badActs() {
		for _, a := range acts {
			isPlayed(t, y, []permit.Act{a}, permit.Yard{}, 0, e)
			isPlayed(t, y, []permit.Act{a, {}, move("none")}, permit.Yard{}, 0, e)
			isPlayed(t, y, append(slices.Clone(before), a), permit.Yard{}, 4, e)
			isPlayed(t, y, append(slices.Clone(before), a, permit.Act{}), permit.Yard{}, 4, e)
		}
	}
	grants := make([]permit.Act, 9)
	for i := range grants {
		grants[i] = grant(letters[i], "p")
	}
	isPlayed(t, shown(4), grants[:8], held(shown(4), 2, 2, 2, 2, 2, 2, 2, 2), 0, api.OK)
	isPlayed(t, shown(4), grants, permit.Yard{}, 8, api.ErrMany)
	isPlayed(t, shown(3), []permit.Act{grant("a", "p"), move("b")}, permit.Yard{}, 0, api.ErrRule)
	isPlayed(t, shown(2), []permit.Act{move("i"), move("e"), grant("a", "p"), move("b"), move("b"), giveBack("a"), giveBack("a")}, permit.Yard{}, 6, api.ErrUnknown)
	isPlayed(t, shown(2), []permit.Act{move("i"), move("b"), move("i")}, permit.Yard{}, 2, api.ErrRule)
}

// P9.2: acts are played one after the other.
func TestPlayOfMany(t *testing.T) {
	r := rand.New(rand.NewSource(922))
	seen := map[api.Errno]int{}
	for range 5000 {
		y := randomYard(r, 8)
		l := make([]permit.Act, r.Intn(20))
		for i := range l {
			l[i] = randomAct(r, y)
		}
		want, index, wanted := y, 0, api.OK
		for i, a := range l {
			next, e := acted(want, a)
			if e != api.OK {
				want, index, wanted = permit.Yard{}, i, e
				break
			}
			want = next
		}
		isPlayed(t, y, l, want, index, wanted)
		seen[wanted]++
	}
	for _, e := range []api.Errno{api.OK, api.ErrRule, api.ErrTwice, api.ErrUnknown} {
		if seen[e] < 100 {
			t.Errorf("the errors are %v", seen)
		}
	}
}

// randomAct returns an act, often one that a yard permits.
func randomAct(r *rand.Rand, y permit.Yard) permit.Act {
	name, section := letters[r.Intn(9)], y.Sections[r.Intn(len(y.Sections))].Name
	if l := y.Switches; len(l) > 0 && r.Intn(3) > 0 {
		i := r.Intn(len(l))
		for k := range l {
			if lockOf(y, (i+k)%len(l)) == "" {
				return move(l[(i+k)%len(l)].Name)
			}
		}
	}
	switch r.Intn(3) {
	case 0:
		return move(name)
	case 1:
		return grant(name, section)
	}
	return giveBack(name)
}

// acted returns a yard after an act, by Move, Grant or Return.
func acted(y permit.Yard, a permit.Act) (permit.Yard, api.Errno) {
	switch a.Kind {
	case "move":
		return permit.Move(y, a.Name)
	case "grant":
		return permit.Grant(y, a.Name, a.Section)
	}
	return permit.Return(y, a.Name)
}
