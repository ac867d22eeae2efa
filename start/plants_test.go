package start_test

import (
	"fmt"
	"math/rand"
	"slices"
	"strings"
	"testing"

	"bipole/api"
	"bipole/start"
)

// P8.1
func TestCheckPlant(t *testing.T) {
	eachBadPlant(func(what string, x start.Plant, e api.Errno) {
		is(t, what, start.CheckPlant(x), e)
	})
	longest := strings.Repeat("m", 24)
	crowded := chain(8)
	for i := range crowded.Parts {
		crowded.Parts[i].Needs = slices.Clone(letters[i+1 : 8])
	}
	for _, x := range []start.Plant{
		p(), black(0, 0), black(10000, 10000), chain(8), crowded, equal(0, 1, 0, 1), equal(10000, 8, 10000, 1000), equal(5, 8, -10000, 1),
		plant(0, part(longest, 10000, -10000, 1000), part("M", 0, 0, 1, longest, "m"), part("m", 10000, 10000, 1, longest)),
		plant(0, part("a", 0, 0, 1, "b", "c"), part("b", 0, 0, 1, "d"), part("c", 0, 0, 1, "d"), part("d", 0, 0, 1)),
	} {
		is(t, fmt.Sprint(x), start.CheckPlant(x), api.OK)
	}
}

// needsOf returns the names of all that a part needs, by the definition.
func needsOf(x start.Plant, name string) map[string]bool {
	all := map[string]bool{}
	for _, y := range x.Parts {
		if y.Name != name {
			continue
		}
		for _, needed := range y.Needs {
			all[needed] = true
			for further := range needsOf(x, needed) {
				all[further] = true
			}
		}
	}
	return all
}

// P8.1
func TestNeeds(t *testing.T) {
	eachBadPart(func(what string, x start.Plant, i int, want api.Errno) {
		needs, e := start.Needs(x, i)
		isList(t, what, needs, nil)
		is(t, what, e, want)
	})
	for i, want := range [][]int{nil, {0}, {0}, {0, 1, 2}} {
		needs, e := start.Needs(p(), i)
		isList(t, fmt.Sprint("all that ", i, " needs"), needs, want)
		is(t, fmt.Sprint("all that ", i, " needs"), e, api.OK)
	}
	for i := range 8 {
		needs, e := start.Needs(chain(8), i)
		isList(t, fmt.Sprint("all that ", i, " needs in a chain"), needs, []int{0, 1, 2, 3, 4, 5, 6, 7}[i+1:])
		is(t, fmt.Sprint("all that ", i, " needs in a chain"), e, api.OK)
		needs, _ = start.Needs(equal(0, 8, 0, 1), i)
		isList(t, fmt.Sprint("all that ", i, " needs in no chain"), needs, nil)
	}
}

// P8.1: what a part needs, and the minutes of all of it, are those of the definition.
func TestNeedsOfMany(t *testing.T) {
	r := rand.New(rand.NewSource(811))
	through := 0
	for range 2000 {
		x := randomPlant(r, 8)
		for i, y := range x.Parts {
			what := fmt.Sprint(i, " of ", x)
			all := needsOf(x, y.Name)
			var want []int
			minutes := y.Minutes
			for k, other := range x.Parts {
				if all[other.Name] {
					want = append(want, k)
					minutes += other.Minutes
				}
			}
			needs, e := start.Needs(x, i)
			isList(t, what, needs, want)
			is(t, what, e, api.OK)
			bound, e := start.Bound(x, i)
			is(t, what, bound, minutes)
			is(t, what, e, api.OK)
			if len(want) > len(y.Needs) {
				through++
			}
		}
	}
	if through < 500 {
		t.Errorf("only %d parts need others through others", through)
	}
}

// P8.1
func TestSpare(t *testing.T) {
	eachBadSet(func(what string, x start.Plant, set int, want api.Errno) {
		spare, e := start.Spare(x, set)
		is(t, what, spare, 0)
		is(t, what, e, want)
	})
	for set, want := range []int{100, 200, 70, 170, 80, 180, 50, 150, 40, 140, 10, 110, 20, 120, -10, 90} {
		spare, e := start.Spare(p(), set)
		is(t, fmt.Sprint("spare of ", set), spare, want)
		is(t, fmt.Sprint("spare of ", set), e, api.OK)
	}
	for _, x := range []struct{ capacity, load, set, want int }{{0, 10000, 255, -80000}, {10000, -10000, 255, 90000}, {0, 10000, 128, -10000}, {5, 7, 129, -9}, {0, 0, 255, 0}} {
		spare, e := start.Spare(equal(x.capacity, 8, x.load, 1), x.set)
		is(t, fmt.Sprint(x), spare, x.want)
		is(t, fmt.Sprint(x), e, api.OK)
	}
}

// P8.1: a part is ready up to the spare capacity, by its inrush and by its load.
func TestReady(t *testing.T) {
	eachBadSet(func(what string, x start.Plant, set int, want api.Errno) {
		ready, e := start.Ready(x, set)
		isList(t, what, ready, nil)
		is(t, what, e, want)
	})
	two := func(inrush, load int) start.Plant {
		return plant(10, part("a", inrush, load, 1), part("b", 0, 10, 1), part("c", 0, -5, 1, "b"))
	}
	for _, x := range []struct {
		x    start.Plant
		set  int
		want []int
	}{
		{p(), 0, []int{0}}, {p(), 1, []int{1, 2}}, {p(), 3, []int{2}}, {p(), 5, []int{1}}, {p(), 7, []int{3}}, {p(), 15, nil}, {p(), 8, nil}, {p(), 6, []int{0}}, {p(), 14, nil}, {p(), 9, []int{1}}, {p(), 10, nil},
		{black(40, 150), 0, nil}, {black(50, 150), 0, []int{0}}, {black(49, 150), 0, nil}, {black(100, 180), 3, nil}, {black(100, 170), 3, []int{2}}, {black(100, 171), 3, nil}, {black(100, 200), 1, []int{1, 2}}, {black(100, 201), 1, []int{1}},
		{two(10, 0), 0, []int{0, 1}}, {two(11, 0), 0, []int{1}}, {two(0, 10), 0, []int{0, 1}}, {two(0, 11), 0, []int{1}}, {two(11, -10000), 0, []int{1}}, {two(10, 10), 0, []int{0, 1}}, {two(6, 6), 1, nil}, {two(0, 0), 2, []int{0, 2}}, {two(1, 0), 2, []int{2}}, {two(0, 1), 2, []int{2}}, {two(5, 5), 6, []int{0}}, {two(6, 0), 6, nil}, {two(0, 6), 6, nil}, {two(0, -1), 3, []int{2}}, {two(0, 1), 3, nil}, {two(0, 1), 4, []int{0, 1}},
		{equal(0, 8, 0, 1), 0, []int{0, 1, 2, 3, 4, 5, 6, 7}}, {equal(0, 8, 0, 1), 0x55, []int{1, 3, 5, 7}}, {equal(0, 8, 0, 1), 255, nil}, {chain(8), 0, []int{7}}, {chain(8), 254, []int{0}}, {chain(8), 126, []int{0, 7}},
	} {
		what := fmt.Sprint(x.set, " of ", x.x)
		ready, e := start.Ready(x.x, x.set)
		isList(t, what, ready, x.want)
		is(t, what, e, api.OK)
	}
}

// P8.1: the spare capacity and the ready parts of any set are those of the definition.
func TestReadyOfMany(t *testing.T) {
	r := rand.New(rand.NewSource(812))
	seen := map[api.Errno]int{}
	for range 300 {
		x := randomPlant(r, 8)
		for set := range 1 << len(x.Parts) {
			what := fmt.Sprint(set, " of ", x)
			before := members(set)
			var want []int
			for i := range x.Parts {
				e := refused(x, before, i)
				seen[e]++
				if e == api.OK {
					want = append(want, i)
				}
			}
			ready, e := start.Ready(x, set)
			isList(t, what, ready, want)
			is(t, what, e, api.OK)
			spare, e := start.Spare(x, set)
			is(t, what, spare, spareOf(x, before))
			is(t, what, e, api.OK)
		}
	}
	if seen[api.OK] < 1000 || seen[api.ErrRule] < 1000 || seen[api.ErrLimit] < 1000 || seen[api.ErrTwice] < 1000 {
		t.Errorf("the errors are %v", seen)
	}
}

// P8.1
func TestBound(t *testing.T) {
	eachBadPart(func(what string, x start.Plant, i int, want api.Errno) {
		bound, e := start.Bound(x, i)
		is(t, what, bound, 0)
		is(t, what, e, want)
	})
	for i, want := range []int{10, 15, 18, 26} {
		for _, x := range []start.Plant{p(), black(40, 180)} { // whether it can be energized or not
			bound, e := start.Bound(x, i)
			is(t, fmt.Sprint("bound of ", i), bound, want)
			is(t, fmt.Sprint("bound of ", i), e, api.OK)
		}
	}
	longest := chain(8)
	for i := range longest.Parts {
		longest.Parts[i].Minutes = 1000
	}
	bound, e := start.Bound(longest, 0)
	is(t, "the greatest bound", bound, 8000)
	is(t, "the greatest bound", e, api.OK)
}
