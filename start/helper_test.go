package start_test

import (
	"fmt"
	"math"
	"math/rand"
	"slices"
	"strings"
	"testing"

	"bipole/api"
	"bipole/start"
)

// is fails a test if a result is not the expected one.
func is[T comparable](t *testing.T, what string, got, want T) {
	t.Helper()
	if got != want {
		t.Errorf("%s: got %v, want %v", what, got, want)
	}
}

// isList fails a test if a list is not the expected one; nil and empty lists are equal.
func isList[T comparable](t *testing.T, what string, got, want []T) {
	t.Helper()
	if !slices.Equal(got, want) {
		t.Errorf("%s: got %v, want %v", what, got, want)
	}
}

// isPlant fails a test if a plant is not the expected one.
func isPlant(t *testing.T, what string, got, want start.Plant) {
	t.Helper()
	is(t, what+": capacity", got.Capacity, want.Capacity)
	is(t, what+": number of parts", len(got.Parts), len(want.Parts))
	for i, x := range want.Parts[:min(len(got.Parts), len(want.Parts))] {
		y := got.Parts[i]
		isList(t, fmt.Sprint(what, ": needs of ", i), y.Needs, x.Needs)
		is(t, fmt.Sprint(what, ": name of ", i), y.Name, x.Name)
		is(t, fmt.Sprint(what, ": numbers of ", i), [3]int{y.Inrush, y.Load, y.Minutes}, [3]int{x.Inrush, x.Load, x.Minutes})
	}
}

// brief returns the beginning of the text of values.
func brief(l ...any) string {
	s := fmt.Sprint(l...)
	return s[:min(len(s), 300)]
}

// beyond returns integers that are not from low to high.
func beyond(low, high int) []int {
	return []int{low - 1, high + 1, -1 << 40, 1 << 40, math.MinInt, math.MaxInt}
}

// between returns a random integer from low to high.
func between(r *rand.Rand, low, high int) int {
	return low + r.Intn(high-low+1)
}

// part returns a part that needs others.
func part(name string, inrush, load, minutes int, needs ...string) start.Part {
	return start.Part{Name: name, Needs: needs, Inrush: inrush, Load: load, Minutes: minutes}
}

// plant returns a plant of parts.
func plant(capacity int, parts ...start.Part) start.Plant {
	return start.Plant{Capacity: capacity, Parts: parts}
}

// black returns the plant P of the chapter's examples with a capacity, and with the
// inrush of its transformer.
func black(capacity, inrush int) start.Plant {
	return plant(capacity,
		part("diesel", 50, -100, 10),
		part("pump", 80, 30, 5, "diesel"),
		part("transformer", inrush, 20, 8, "diesel"),
		part("valve", 40, 60, 3, "pump", "transformer"))
}

// p returns the plant P.
func p() start.Plant { return black(100, 150) }

// letters are the names of parts.
var letters = []string{"a", "b", "c", "d", "e", "f", "g", "h", "i"}

// equal returns a plant of so many parts that need nothing.
func equal(capacity, parts, load, minutes int) start.Plant {
	x := plant(capacity)
	for _, name := range letters[:parts] {
		x.Parts = append(x.Parts, part(name, 0, load, minutes))
	}
	return x
}

// chain returns a plant of so many parts, the first of which needs the second, and
// so on.
func chain(parts int) start.Plant {
	x := equal(1, parts, 0, 1)
	for i := range parts - 1 {
		x.Parts[i].Needs = []string{letters[i+1]}
	}
	return x
}

// randomPlant returns a plant of up to so many parts, of which often some can be
// energized and others cannot.
func randomPlant(r *rand.Rand, most int) start.Plant {
	scale := []int{3, 20, 10000}[r.Intn(3)]
	x := plant(r.Intn(scale+1) / between(r, 1, 2))
	order := r.Perm(between(r, 1, most))
	x.Parts = make([]start.Part, len(order))
	rare := between(r, 1, 6)
	for k, i := range order {
		y := part(letters[i], r.Intn(scale+1)/between(r, 1, 4), between(r, -scale, scale)/between(r, 1, 4), between(r, 1, []int{2, 9, 1000}[r.Intn(3)]))
		for _, needed := range r.Perm(k) {
			if r.Intn(rare) == 0 {
				y.Needs = append(y.Needs, letters[order[needed]])
			}
		}
		x.Parts[i] = y
	}
	return x
}

// members returns the parts of a set, by its digits.
func members(set int) []int {
	var l []int
	digits := fmt.Sprintf("%b", set)
	for i := range digits {
		if digits[len(digits)-1-i] == '1' {
			l = append(l, i)
		}
	}
	return l
}

// setOf returns the set of parts.
func setOf(parts []int) int {
	set := 0
	for _, i := range parts {
		set += int(math.Pow(2, float64(i)))
	}
	return set
}

// spareOf returns the spare capacity of parts.
func spareOf(x start.Plant, parts []int) int {
	spare := x.Capacity
	for _, i := range parts {
		spare -= x.Parts[i].Load
	}
	return spare
}

// refused returns the error of a part that is to be energized after others, by the
// definition.
func refused(x start.Plant, before []int, i int) api.Errno {
	if i < 0 || i >= len(x.Parts) {
		return api.ErrUnknown
	}
	if slices.Contains(before, i) {
		return api.ErrTwice
	}
	for _, name := range x.Parts[i].Needs {
		if !slices.ContainsFunc(before, func(k int) bool { return x.Parts[k].Name == name }) {
			return api.ErrRule
		}
	}
	if spare := spareOf(x, before); x.Parts[i].Inrush > spare || x.Parts[i].Load > spare {
		return api.ErrLimit
	}
	return api.OK
}

// ordersOf visits all orders of a plant, each before those that are greater at the
// first place where they differ.
func ordersOf(x start.Plant, f func(order []int)) {
	var visit func(order []int)
	visit = func(order []int) {
		f(order)
		for i := range x.Parts {
			if refused(x, order, i) == api.OK {
				visit(append(slices.Clone(order), i))
			}
		}
	}
	visit(nil)
}

// minutesOf returns the minutes of parts.
func minutesOf(x start.Plant, parts []int) int {
	sum := 0
	for _, i := range parts {
		sum += x.Parts[i].Minutes
	}
	return sum
}

// badNames are strings that are no names.
var badNames = []string{"", "1", "_a", "a b", "a-", "ä", "m\n", strings.Repeat("m", 25)}

// badParts returns lists of parts that begin with good ones, each with an error of
// its last one.
func badParts() map[api.Errno][][]start.Part {
	good := p().Parts
	behind := func(x start.Part) []start.Part { return append(slices.Clone(good[:2]), x) }
	l := map[api.Errno][][]start.Part{
		api.ErrTwice: {behind(part("pump", 0, 0, 1)), behind(part("diesel", 0, 0, 1, "diesel")), behind(part("pump", -1, 99999, 0, letters...)), behind(part("diesel", 0, 0, 1, letters...))},
		api.ErrMany:  {behind(part("b", 0, 0, 1, letters...)), behind(part("b", -1, 10001, 0, slices.Repeat([]string{"diesel"}, 9)...)), {part("a", 0, 0, 1, make([]string, 1000)...)}},
	}
	for _, name := range badNames {
		l[api.ErrName] = append(l[api.ErrName], behind(part(name, 0, 0, 1)), behind(part(name, -1, 10001, 0, letters...)), []start.Part{part(name, 0, 0, 1, name, "sun")})
	}
	wrong := func(x start.Part) {
		l[api.ErrRange] = append(l[api.ErrRange], behind(x), []start.Part{x})
	}
	for _, n := range beyond(0, 10000) {
		wrong(part("a", n, 0, 1))
		wrong(part("a", n, 10001, 0, "sun", "a", "a"))
	}
	for _, n := range beyond(-10000, 10000) {
		wrong(part("a", 0, n, 1))
		wrong(part("a", 10000, n, 0, "sun"))
	}
	for _, n := range beyond(1, 1000) {
		wrong(part("a", 0, 0, n))
		wrong(part("a", 10000, -10000, n, "sun", "a", "b", "c", "d", "e", "f", "g"))
	}
	return l
}

// badNeeds returns plants whose parts need what they cannot.
func badNeeds() map[api.Errno][]start.Plant {
	whole := chain(8)
	whole.Parts[7].Needs = []string{"a"}
	inner := chain(8)
	inner.Parts[4].Needs = []string{"f", "d"}
	return map[api.Errno][]start.Plant{
		api.ErrUnknown: {
			plant(0, part("a", 0, 0, 1, "b")),
			plant(0, part("a", 0, 0, 1, "")),
			plant(0, part("a", 0, 0, 1, "A")),
			plant(0, part("a", 0, 0, 1, "b", "b")),
			plant(0, part("a", 0, 0, 1, "a", "aa", "a")),
			plant(0, part("a", 0, 0, 1), part("b", 0, 0, 1, "a", "c", "a")),
			plant(0, part("a", 0, 0, 1, "c"), part("b", 0, 0, 1, "a", "a")),
			plant(0, part("a", 0, 0, 1, "b"), part("b", 0, 0, 1, "a", "c")),
		},
		api.ErrTwice: {
			plant(0, part("a", 0, 0, 1), part("b", 0, 0, 1, "a", "a")),
			plant(0, part("a", 0, 0, 1, "a", "a")),
			plant(0, part("a", 0, 0, 1), part("b", 0, 0, 1, "a", "a", "c")),
			plant(0, part("a", 0, 0, 1, "b", "c", "b"), part("b", 0, 0, 1, "d"), part("c", 0, 0, 1, "a")),
			plant(0, part("a", 0, 0, 1, slices.Repeat([]string{"b"}, 8)...), part("b", 0, 0, 1)),
		},
		api.ErrCycle: {
			plant(0, part("a", 0, 0, 1, "a")),
			plant(0, part("a", 0, 0, 1), part("b", 0, 0, 1, "a", "b")),
			plant(0, part("a", 0, 0, 1, "b"), part("b", 0, 0, 1, "a")),
			whole, inner,
		},
	}
}

// eachBadPlant calls a function with plants and with the error that they have.
func eachBadPlant(f func(what string, x start.Plant, e api.Errno)) {
	call := func(x start.Plant, e api.Errno) { f(brief("the plant ", x), x, e) }
	for _, n := range beyond(0, 10000) {
		call(plant(n, p().Parts...), api.ErrRange)
		call(plant(n), api.ErrRange)
		call(plant(n, part("", 0, 0, 1)), api.ErrRange)
		call(plant(n, make([]start.Part, 9)...), api.ErrRange)
	}
	call(plant(0), api.ErrEmpty)
	call(plant(10000, []start.Part{}...), api.ErrEmpty)
	call(equal(0, 9, 0, 1), api.ErrMany)
	call(plant(10000, make([]start.Part, 1000)...), api.ErrMany)
	for e, l := range badParts() {
		for _, parts := range l {
			call(plant(100, parts...), e)
			call(plant(100, append(parts, part("", -1, 10001, 0, letters...))...), e)
			call(plant(100, append(parts, part("pump", 0, 0, 1, "sun", "sun"))...), e)
			call(plant(100, append([]start.Part{part("z", 0, 0, 1, "z", "z", "sun")}, parts...)...), e)
		}
	}
	for e, l := range badNeeds() {
		for _, x := range l {
			call(x, e)
		}
	}
}

// eachBadPart calls a function with a plant and the index of a part, and with the
// error that they have.
func eachBadPart(f func(what string, x start.Plant, i int, e api.Errno)) {
	eachBadPlant(func(what string, x start.Plant, e api.Errno) {
		f(what, x, 0, e)
		f(what, x, -1, e)
		f(what, x, 9, e)
	})
	for _, n := range beyond(0, 3) {
		f(fmt.Sprint("the part ", n), p(), n, api.ErrUnknown)
		f(fmt.Sprint("the part ", n), equal(0, 4, 10000, 1), n, api.ErrUnknown)
	}
	f("the part 1 of one", equal(0, 1, 0, 1), 1, api.ErrUnknown)
	f("the part 8 of eight", equal(0, 8, 0, 1), 8, api.ErrUnknown)
}

// eachBadSet calls a function with a plant and a set, and with the error that they
// have.
func eachBadSet(f func(what string, x start.Plant, set int, e api.Errno)) {
	eachBadPlant(func(what string, x start.Plant, e api.Errno) {
		f(what, x, 0, e)
		f(what, x, -1, e)
		f(what, x, 256, e)
	})
	for _, n := range beyond(0, 15) {
		f(fmt.Sprint("the set ", n), p(), n, api.ErrRange)
	}
	f("the set 2 of one part", equal(0, 1, 0, 1), 2, api.ErrRange)
	f("the set 256 of eight", equal(0, 8, 0, 1), 256, api.ErrRange)
}
