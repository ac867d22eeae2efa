package cable_test

import (
	"fmt"
	"math"
	"math/big"
	"math/rand"
	"slices"
	"testing"

	"bipole/api"
	"bipole/cable"
)

// unit is the height 1 of a fault in units of waves.
const unit = 1 << 18

// is fails a test if a result is not the expected one.
func is[T comparable](t *testing.T, what string, got, want T) {
	t.Helper()
	if got != want {
		t.Errorf("%s: got %v, want %v", what, got, want)
	}
}

// isList fails a test if a list is not the expected one; nil and empty lists are equal.
func isList[T comparable](t *testing.T, what string, got, want []T) {
	t.Helper()
	if !slices.Equal(got, want) {
		t.Errorf("%s: got %v, want %v", what, got, want)
	}
}

// isCable fails a test if a cable is not the expected one.
func isCable(t *testing.T, what string, got, want cable.Cable) {
	t.Helper()
	isList(t, what+": sections", got.Sections, want.Sections)
	isList(t, what+": joints", got.Joints, want.Joints)
	is(t, what+": ends", got.Ends, want.Ends)
}

// beyond returns integers that are not from low to high.
func beyond(low, high int) []int {
	return []int{low - 1, high + 1, -1 << 50, 1 << 50, math.MinInt, math.MaxInt}
}

// between returns a random integer from low to high.
func between(r *rand.Rand, low, high int) int {
	return low + r.Intn(high-low+1)
}

// sections returns sections, each a length and a delay.
func sections(l ...[2]int) []cable.Section {
	var result []cable.Section
	for _, s := range l {
		result = append(result, cable.Section{Length: s[0], Delay: s[1]})
	}
	return result
}

// shown and fault are the cable C and the fault F of the chapter's examples.
func shown() cable.Cable {
	return cable.Cable{Sections: sections([2]int{1000, 4}, [2]int{3000, 6}), Joints: []int{2}, Ends: [2]int{4, 0}}
}

var fault = cable.Fault{Section: 0, Offset: 1, Tick: 100, Height: 16}

// single returns a cable of one section.
func single(length, delay, a, b int) cable.Cable {
	return cable.Cable{Sections: sections([2]int{length, delay}), Ends: [2]int{a, b}}
}

// longest returns a cable with the most and longest sections, whose joints and
// ends have one factor.
func longest(factor int) cable.Cable {
	return cable.Cable{Sections: sections(slices.Repeat([][2]int{{100000, 64}}, 6)...), Joints: slices.Repeat([]int{factor}, 5), Ends: [2]int{factor, factor}}
}

// randomCable returns a cable in which faults are possible.
func randomCable(r *rand.Rand) cable.Cable {
	var c cable.Cable
	slow, factors := []int{3, 8, 64}[r.Intn(3)], []int{8, 8, 4}[r.Intn(3)]
	for i := range between(r, 1, 6) {
		c.Sections = append(c.Sections, cable.Section{Length: between(r, 1, []int{3, 2000, 100000}[r.Intn(3)]), Delay: between(r, 1, slow)})
		if i > 0 {
			c.Joints = append(c.Joints, randomFactor(r, factors))
		}
	}
	c.Sections[r.Intn(len(c.Sections))].Delay = between(r, 2, slow)
	c.Ends = [2]int{randomFactor(r, factors), randomFactor(r, factors)}
	return c
}

// randomFactor returns a factor, often 0 or one at the end of its range.
func randomFactor(r *rand.Rand, most int) int {
	if r.Intn(6) == 0 {
		return []int{0, most, -most}[r.Intn(3)]
	}
	return between(r, -most, most)
}

// randomFault returns a fault of a cable.
func randomFault(r *rand.Rand, c cable.Cable) cable.Fault {
	for {
		section := r.Intn(len(c.Sections))
		f := cable.Fault{Section: section, Offset: r.Intn(c.Sections[section].Delay), Tick: r.Intn([]int{5, 100001}[r.Intn(2)]), Height: between(r, -20, 20)}
		if r.Intn(2) == 0 {
			f.Height = between(r, -1024, 1024)
		}
		if cable.CheckFault(c, f) == api.OK {
			return f
		}
	}
}

// ratio returns the ratio of two integers that have no common divisor.
func ratio(num, den int) api.Ratio {
	return api.Ratio{Num: num, Den: den}
}

// lowest returns an exact number as a ratio.
func lowest(x *big.Rat) api.Ratio {
	return ratio(int(x.Num().Int64()), int(x.Denom().Int64()))
}

// exact returns a ratio as an exact number.
func exact(x api.Ratio) *big.Rat {
	return big.NewRat(int64(x.Num), int64(x.Den))
}

// badCables returns cables with each error, most of them with later errors, too.
func badCables() map[api.Errno][]cable.Cable {
	seven := sections(slices.Repeat([][2]int{{1, 2}}, 7)...)
	l := map[api.Errno][]cable.Cable{
		api.ErrEmpty: {{}, {Joints: []int{2}}, {Joints: []int{9}, Ends: [2]int{9, 9}}},
		api.ErrMany:  {{Sections: seven, Joints: make([]int, 6)}, {Sections: make([]cable.Section, 7)}, {Sections: make([]cable.Section, 1000), Ends: [2]int{9, 9}}},
		api.ErrShape: {
			{Sections: seven[:6], Joints: make([]int, 4)}, {Sections: seven[:6], Joints: make([]int, 6)}, {Sections: seven[:1], Joints: make([]int, 1)}, {Sections: seven[:2]},
			{Sections: seven[:2], Joints: []int{0, 9}}, {Sections: seven[:1], Joints: []int{-9}, Ends: [2]int{9, 9}}, {Sections: seven[:2], Ends: [2]int{9, 9}}, {Sections: seven[:1], Joints: make([]int, 1000)},
		},
	}
	for _, n := range beyond(1, 100000) {
		c := shown()
		c.Sections = sections([2]int{n, 4}, [2]int{3000, 6})
		d := shown()
		d.Sections = sections([2]int{1000, 4}, [2]int{n, 6})
		l[api.ErrRange] = append(l[api.ErrRange], c, d, cable.Cable{Sections: d.Sections}, single(n, 5, 0, 0))
	}
	for _, n := range beyond(1, 64) {
		c := shown()
		c.Sections = sections([2]int{1000, n}, [2]int{3000, 6})
		d := shown()
		d.Sections = sections([2]int{1000, 4}, [2]int{3000, n})
		l[api.ErrRange] = append(l[api.ErrRange], c, d, cable.Cable{Sections: d.Sections}, single(5, n, 0, 0))
	}
	for _, n := range beyond(-8, 8) {
		c, d, a, b := shown(), longest(8), shown(), shown()
		c.Joints[0] = n
		d.Joints[4] = n
		a.Ends[0] = n
		b.Ends[1] = n
		l[api.ErrRange] = append(l[api.ErrRange], c, d, a, b)
	}
	return l
}

// eachBadCable calls a function with cables and with the error that they have.
func eachBadCable(f func(what string, c cable.Cable, e api.Errno)) {
	for e, cables := range badCables() {
		for _, c := range cables {
			f(fmt.Sprintf("the cable %.200v", c), c, e)
		}
	}
}

// badFaults returns faults of the cable of the examples with each error, most of
// them with later errors, too.
func badFaults() map[api.Errno][]cable.Fault {
	l := map[api.Errno][]cable.Fault{
		api.ErrZero: {{Section: 0, Offset: 1, Tick: 100}, {Section: 1, Offset: 5}},
		api.ErrRange: {
			{Section: 0, Offset: 4, Tick: 1, Height: 1}, {Section: 1, Offset: 6, Tick: 1, Height: 1}, {Section: 1, Tick: 1, Height: 1}, {Section: 1, Offset: 6},
		},
	}
	for _, n := range beyond(0, 1) {
		l[api.ErrUnknown] = append(l[api.ErrUnknown], cable.Fault{Section: n, Offset: 1, Height: 1}, cable.Fault{Section: n, Offset: -1, Tick: -1, Height: 2000}, cable.Fault{Section: n})
	}
	for _, n := range beyond(1, 3) {
		l[api.ErrRange] = append(l[api.ErrRange], cable.Fault{Offset: n, Height: 1}, cable.Fault{Offset: n})
	}
	for _, n := range beyond(0, 100000) {
		l[api.ErrRange] = append(l[api.ErrRange], cable.Fault{Offset: 1, Tick: n, Height: 1}, cable.Fault{Offset: 1, Tick: n})
	}
	for _, n := range beyond(-1024, 1024) {
		l[api.ErrRange] = append(l[api.ErrRange], cable.Fault{Offset: 1, Tick: 5, Height: n})
	}
	return l
}

// eachBadFault calls a function with cables and faults, and with the error that
// they have together.
func eachBadFault(f func(what string, c cable.Cable, x cable.Fault, e api.Errno)) {
	eachBadCable(func(what string, c cable.Cable, e api.Errno) {
		f(what, c, cable.Fault{Offset: 1, Height: 1}, e)
		f(what+" with a bad fault", c, cable.Fault{Section: -1}, e)
		f(what+" with a bad fault", c, cable.Fault{Section: 1, Offset: 1}, e)
	})
	for e, faults := range badFaults() {
		for _, x := range faults {
			f(fmt.Sprint("the fault ", x), shown(), x, e)
		}
	}
}

// heard are the arrivals of the fault of the examples in the window 10.
func heard() []cable.Arrival {
	return []cable.Arrival{{Tick: 101, End: "A", Height: 16 * unit}, {Tick: 107, End: "A", Height: 4 * unit}, {Tick: 109, End: "A", Height: 2 * unit}, {Tick: 109, End: "B", Height: 20 * unit}}
}

// manyArrivals returns so many arrivals, two at each tick.
func manyArrivals(n int) []cable.Arrival {
	l := make([]cable.Arrival, n)
	for i := range l {
		l[i] = cable.Arrival{Tick: i / 2, End: []string{"A", "B"}[i%2], Height: i}
	}
	return l
}

// at returns arrivals of the height 1, each at a tick and an end.
func at(tick int, end string, more ...cable.Arrival) []cable.Arrival {
	return append([]cable.Arrival{{Tick: tick, End: end, Height: 1}}, more...)
}

// badArrivals returns arrivals with each error, most of them with later errors, too.
func badArrivals() map[api.Errno][][]cable.Arrival {
	none := cable.Arrival{Tick: -1, End: "C", Height: 1 << 50}
	l := map[api.Errno][][]cable.Arrival{
		api.ErrMany:  {manyArrivals(2049), make([]cable.Arrival, 2049), slices.Repeat([]cable.Arrival{none}, 5000)},
		api.ErrOrder: {at(5, "A", at(5, "A")...), at(5, "B", at(5, "A")...), at(5, "B", at(5, "B")...), at(5, "A", at(4, "B")...), at(5, "A", at(6, "A", at(6, "A", none)...)...), at(5, "B", at(4, "A", none)...)},
	}
	for _, end := range []string{"", "C", "a", "b", "AB", "A ", "@"} {
		l[api.ErrKind] = append(l[api.ErrKind], at(5, end), at(5, "A", at(6, end)...), at(5, "B", at(4, end, none)...), []cable.Arrival{{Tick: 5, End: end, Height: 1 << 50}})
	}
	for _, n := range beyond(0, 999999999) {
		l[api.ErrRange] = append(l[api.ErrRange], at(n, "A"), at(n, "C"), at(5, "A", at(n, "B", none)...))
	}
	for _, n := range beyond(-1<<44, 1<<44) {
		l[api.ErrRange] = append(l[api.ErrRange], []cable.Arrival{{End: "A", Height: n}}, []cable.Arrival{{End: "B", Height: n}, none}, at(5, "B", cable.Arrival{Tick: 4, End: "A", Height: n}))
	}
	return l
}

// eachBadArrivals calls a function with arrivals and with the error that they have.
func eachBadArrivals(f func(what string, l []cable.Arrival, e api.Errno)) {
	for e, lists := range badArrivals() {
		for _, l := range lists {
			f(fmt.Sprintf("the arrivals %.200v", l), l, e)
		}
	}
}

// badEnds are ends that a cable does not have.
var badEnds = []string{"", "C", "a", "b", "AB", "BA", " A", "B ", "A\x00", "@"}

// bothEnds are the ends of a cable.
var bothEnds = [2]string{"A", "B"}
