package start_test

import (
	"fmt"
	"math/rand"
	"slices"
	"testing"

	"bipole/api"
	"bipole/start"
)

// isOrder fails a test if the minutes of a list of parts, or its error and the index
// of this, are not the expected ones.
func isOrder(t *testing.T, x start.Plant, order []int, minutes, index int, want api.Errno) {
	t.Helper()
	what := brief(order, " of ", x)
	n, at, e := start.CheckOrder(x, order)
	is(t, what+": minutes", n, minutes)
	is(t, what+": index", at, index)
	is(t, what+": error", e, want)
}

// P8.2
func TestCheckOrder(t *testing.T) {
	eachBadPlant(func(_ string, x start.Plant, e api.Errno) {
		isOrder(t, x, nil, 0, 0, e)
		isOrder(t, x, []int{0, -1}, 0, 0, e)
	})
	for _, x := range []struct {
		order   []int
		minutes int
	}{
		{nil, 0}, {[]int{0}, 10}, {[]int{0, 1}, 15}, {[]int{0, 2}, 18}, {[]int{0, 1, 2}, 23}, {[]int{0, 2, 1}, 23}, {[]int{0, 1, 2, 3}, 26}, {[]int{0, 2, 1, 3}, 26},
	} {
		isOrder(t, p(), x.order, x.minutes, 0, api.OK)
	}
	isOrder(t, equal(0, 8, 0, 1000), []int{7, 3, 0, 1, 6, 2, 5, 4}, 8000, 0, api.OK)
	for _, n := range beyond(0, 3) {
		isOrder(t, p(), []int{n}, 0, 0, api.ErrUnknown)
		isOrder(t, p(), []int{0, 1, n, n, 0}, 0, 2, api.ErrUnknown)
		isOrder(t, p(), []int{0, 1, 2, 3, n}, 0, 4, api.ErrUnknown)
		isOrder(t, p(), []int{3, n}, 0, 0, api.ErrRule)
		isOrder(t, p(), []int{0, 0, n}, 0, 1, api.ErrTwice)
	}
	isOrder(t, p(), []int{0, 1, 0}, 0, 2, api.ErrTwice)
	isOrder(t, p(), []int{0, 1, 2, 3, 3}, 0, 4, api.ErrTwice)
	isOrder(t, p(), []int{0, 1, 2, 3, 0}, 0, 4, api.ErrTwice)
	isOrder(t, equal(0, 8, 0, 1), []int{7, 6, 5, 4, 3, 2, 1, 0, 7, 7}, 0, 8, api.ErrTwice)
	isOrder(t, equal(0, 8, 1, 1), make([]int, 1000), 0, 0, api.ErrLimit)
	isOrder(t, p(), make([]int, 1000), 0, 1, api.ErrTwice)
	isOrder(t, p(), []int{1, 0}, 0, 0, api.ErrRule)
	isOrder(t, p(), []int{0, 1, 3, 2}, 0, 2, api.ErrRule)
	isOrder(t, p(), []int{0, 2, 3, 3}, 0, 2, api.ErrRule)
	isOrder(t, black(100, 180), []int{0, 1, 2, 3}, 0, 2, api.ErrLimit)
	isOrder(t, black(100, 180), []int{0, 2, 1, 3}, 26, 0, api.OK)
	isOrder(t, black(100, 180), []int{0, 1, 2, -1}, 0, 2, api.ErrLimit)
	isOrder(t, black(40, 150), []int{0}, 0, 0, api.ErrLimit)
	isOrder(t, black(40, 150), []int{1}, 0, 0, api.ErrRule) // before its inrush
	isOrder(t, black(49, 150), []int{0, 0}, 0, 0, api.ErrLimit)
	heavy := plant(10, part("a", 0, 10, 1), part("b", 0, 1, 1), part("c", 0, -1, 1))
	isOrder(t, heavy, []int{0, 1}, 0, 1, api.ErrLimit)
	isOrder(t, heavy, []int{0, 0}, 0, 1, api.ErrTwice) // before its load
	isOrder(t, heavy, []int{0, 2, 1}, 3, 0, api.OK)
}

// P8.2: the minutes and the errors of lists of parts are those of the definition.
func TestCheckOrderOfMany(t *testing.T) {
	r := rand.New(rand.NewSource(821))
	seen := map[api.Errno]int{}
	for range 20000 {
		x := randomPlant(r, 8)
		order := r.Perm(len(x.Parts))[:r.Intn(len(x.Parts)+1)]
		if r.Intn(3) == 0 {
			order = append(order, between(r, -1, len(x.Parts)), r.Intn(len(x.Parts)))
		}
		minutes, index, want := minutesIn(x, order)
		isOrder(t, x, order, minutes, index, want)
		seen[want]++
	}
	for _, e := range []api.Errno{api.OK, api.ErrUnknown, api.ErrTwice, api.ErrRule, api.ErrLimit} {
		if seen[e] < 100 {
			t.Errorf("the errors are %v", seen)
		}
	}
}

// minutesIn returns what CheckOrder does for a plant without an error, by the
// definition.
func minutesIn(x start.Plant, order []int) (int, int, api.Errno) {
	for i, part := range order {
		if e := refused(x, order[:i], part); e != api.OK {
			return 0, i, e
		}
	}
	return minutesOf(x, order), 0, api.OK
}

// isQuickest fails a test if the quickest order for a part, or its minutes, are not
// the expected ones.
func isQuickest(t *testing.T, x start.Plant, i int, want []int, minutes int, wanted api.Errno) {
	t.Helper()
	what := brief(i, " of ", x)
	order, n, e := start.Order(x, i)
	isList(t, what, order, want)
	is(t, what, n, minutes)
	is(t, what, e, wanted)
}

// P8.2: the quickest order has also parts that the part does not need, if only they
// supply what it takes.
func TestOrder(t *testing.T) {
	eachBadPart(func(_ string, x start.Plant, i int, e api.Errno) {
		isQuickest(t, x, i, nil, 0, e)
	})
	for i, want := range [][]int{{0}, {0, 1}, {0, 2}, {0, 1, 2, 3}} {
		isQuickest(t, p(), i, want, []int{10, 15, 18, 26}[i], api.OK)
		isQuickest(t, black(40, 150), i, nil, 0, api.ErrInfeasible)
	}
	isQuickest(t, black(100, 180), 3, []int{0, 2, 1, 3}, 26, api.OK)
	isQuickest(t, black(100, 180), 2, []int{0, 2}, 18, api.OK)
	isQuickest(t, black(100, 201), 3, nil, 0, api.ErrInfeasible)
	isQuickest(t, black(100, 201), 1, []int{0, 1}, 15, api.OK)
	supply := plant(10, part("big", 10, -90, 30), part("small", 5, -20, 8), part("other", 9, -10, 9), part("load", 40, 40, 2))
	isQuickest(t, supply, 3, []int{1, 2, 3}, 19, api.OK)
	supply.Parts[0].Minutes = 16
	isQuickest(t, supply, 3, []int{0, 3}, 18, api.OK)
	supply.Parts[0].Minutes = 17 // as quick: 0 3 is the first one
	isQuickest(t, supply, 3, []int{0, 3}, 19, api.OK)
	supply.Parts[3].Inrush = 101
	isQuickest(t, supply, 3, []int{0, 1, 3}, 27, api.OK)
	supply.Parts[3].Inrush = 131
	isQuickest(t, supply, 3, nil, 0, api.ErrInfeasible)
	isQuickest(t, chain(8), 0, []int{7, 6, 5, 4, 3, 2, 1, 0}, 8, api.OK)
	isQuickest(t, equal(0, 8, 0, 1000), 7, []int{7}, 1000, api.OK)
	isQuickest(t, equal(0, 1, 1, 1), 0, nil, 0, api.ErrInfeasible)
}

// P8.2: of several quickest orders the first one is taken, at the first place where
// they differ, whatever their lengths are.
func TestFirstOrder(t *testing.T) {
	star := func(minutes ...int) start.Plant {
		x := plant(10, part("a", 20, 0, 1))
		for i, n := range minutes {
			x.Parts = append(x.Parts, part(letters[i+1], 0, -5, n))
		}
		return x
	}
	isQuickest(t, star(4, 4, 4), 0, []int{1, 2, 0}, 9, api.OK)
	isQuickest(t, star(5, 4, 4), 0, []int{2, 3, 0}, 9, api.OK)
	isQuickest(t, star(4, 5, 4), 0, []int{1, 3, 0}, 9, api.OK)
	big := star(3, 3, 6)
	big.Parts[3].Load = -10
	isQuickest(t, big, 0, []int{1, 2, 0}, 7, api.OK) // before 3 0
	big = star(6, 3, 3)
	big.Parts[1].Load = -10
	isQuickest(t, big, 0, []int{1, 0}, 7, api.OK) // before 2 3 0
	late := plant(10, part("a", 11, 0, 2), part("b", 0, -1, 3, "c"), part("c", 0, 0, 1), part("d", 20, 0, 1, "a", "b"))
	isQuickest(t, late, 3, nil, 0, api.ErrInfeasible)
	late.Parts[3].Inrush = 11
	isQuickest(t, late, 3, []int{2, 1, 0, 3}, 7, api.OK)
	late.Parts[0].Inrush = 10
	isQuickest(t, late, 3, []int{0, 2, 1, 3}, 7, api.OK)
}

// P8.2: the quickest order is that of the definition.
func TestOrdersOfMany(t *testing.T) {
	r := rand.New(rand.NewSource(822))
	seen := map[string]int{}
	for range 3000 {
		x := randomPlant(r, []int{4, 6}[r.Intn(2)])
		best := make([][]int, len(x.Parts))
		same := make([]bool, len(x.Parts))
		ordersOf(x, func(order []int) {
			if len(order) == 0 {
				return
			}
			last := order[len(order)-1]
			less := minutesOf(x, order) - minutesOf(x, best[last])
			if best[last] == nil || less < 0 {
				best[last], same[last] = order, false
			} else if less == 0 {
				same[last] = true
			}
		})
		for i, order := range best {
			e := api.OK
			if order == nil {
				e = api.ErrInfeasible
			}
			isQuickest(t, x, i, order, minutesOf(x, order), e)
			bound, _ := start.Bound(x, i)
			seen[fmt.Sprint(e, same[i], minutesOf(x, order) > bound)]++
		}
	}
	for _, result := range []string{"18 false false", "0 false false", "0 true false", "0 false true", "0 true true"} {
		if seen[result] < 30 {
			t.Errorf("the results are %v", seen)
		}
	}
}

// P8.2
func TestReachable(t *testing.T) {
	eachBadPlant(func(what string, x start.Plant, want api.Errno) {
		sets, e := start.Reachable(x)
		isList(t, what, sets, nil)
		is(t, what, e, want)
	})
	for _, x := range []struct {
		x    start.Plant
		want []int
	}{
		{p(), []int{0, 1, 3, 5, 7, 15}}, {black(100, 180), []int{0, 1, 3, 5, 7, 15}}, {black(100, 201), []int{0, 1, 3}}, {black(40, 150), []int{0}}, {equal(0, 1, 1, 1), []int{0}}, {equal(1, 1, 1, 1), []int{0, 1}}, {equal(2, 3, 1, 1), []int{0, 1, 2, 3, 4, 5, 6}}, {chain(8), []int{0, 128, 192, 224, 240, 248, 252, 254, 255}},
	} {
		sets, e := start.Reachable(x.x)
		isList(t, fmt.Sprint(x.x), sets, x.want)
		is(t, fmt.Sprint(x.x), e, api.OK)
	}
	all, e := start.Reachable(equal(0, 8, 0, 1))
	is(t, "all sets", len(all), 256)
	is(t, "all sets", e, api.OK)
}

// P8.2: the sets that can be reached are those of all orders.
func TestReachableOfMany(t *testing.T) {
	r := rand.New(rand.NewSource(823))
	for range 1000 {
		x := randomPlant(r, 6)
		var want []int
		ordersOf(x, func(order []int) { want = append(want, setOf(order)) })
		slices.Sort(want)
		sets, e := start.Reachable(x)
		isList(t, fmt.Sprint(x), sets, slices.Compact(want))
		is(t, fmt.Sprint(x), e, api.OK)
	}
}

// P8.2
func TestCheckClosed(t *testing.T) {
	eachBadPart(func(what string, x start.Plant, i int, e api.Errno) {
		for _, sets := range [][]int{nil, {0}, {-1}, make([]int, 257)} {
			is(t, what, start.CheckClosed(x, i, sets), e)
		}
	})
	reached := []int{0, 1, 3}
	for _, x := range []struct {
		x    start.Plant
		i    int
		sets []int
		want api.Errno
	}{
		{black(40, 150), 0, []int{0}, api.OK}, {black(40, 150), 1, []int{0}, api.OK}, {black(40, 150), 2, []int{0}, api.OK}, {black(40, 150), 3, []int{0}, api.OK}, {black(40, 150), 3, []int{0, 8}, api.OK}, {black(40, 150), 0, []int{0, 8, 15}, api.OK},
		{black(100, 201), 3, reached, api.OK}, {black(100, 201), 2, reached, api.OK}, {black(100, 201), 1, reached, api.ErrProof}, {black(100, 201), 0, reached, api.ErrProof}, {black(100, 201), 3, []int{0, 1}, api.ErrProof}, {black(100, 201), 3, []int{0, 3}, api.ErrProof}, {black(100, 201), 3, []int{1, 3}, api.ErrProof}, {black(100, 201), 3, []int{0, 1, 3, 15}, api.OK}, {black(100, 201), 3, []int{0, 1, 2, 3}, api.OK}, {black(100, 201), 3, []int{0, 1, 3, 4}, api.ErrProof},
		{p(), 3, []int{0, 1}, api.ErrProof}, {p(), 3, []int{0, 1, 3, 5, 7}, api.ErrProof}, {p(), 3, []int{0, 1, 3, 5, 7, 15}, api.ErrProof}, {p(), 3, nil, api.ErrProof}, {p(), 3, []int{15}, api.ErrProof}, {black(40, 150), 3, nil, api.ErrProof}, {black(40, 150), 3, []int{8}, api.ErrProof},
		{equal(0, 8, 1, 1), 7, []int{0}, api.OK}, {equal(0, 1, 1, 1), 0, []int{0, 1}, api.OK},
	} {
		is(t, fmt.Sprint(x.sets, " for ", x.i, " of ", x.x), start.CheckClosed(x.x, x.i, x.sets), x.want)
	}
	all := make([]int, 256)
	for i := range all {
		all[i] = i
	}
	is(t, "all sets", start.CheckClosed(plant(0, append(equal(0, 7, 0, 1).Parts, part("z", 0, 1, 1))...), 7, all), api.OK)
	is(t, "all sets", start.CheckClosed(equal(0, 8, 0, 1), 7, all), api.ErrProof)
	is(t, "all sets, and one more", start.CheckClosed(equal(0, 8, 0, 1), 7, append(all, 0)), api.ErrMany)
	is(t, "sets of no plant", start.CheckClosed(equal(0, 8, 0, 1), 7, make([]int, 257)), api.ErrMany)
}

// P8.2: each set is asked for before the next one.
func TestSetsWithErrors(t *testing.T) {
	no := func(want api.Errno, sets ...int) {
		t.Helper()
		is(t, fmt.Sprint(sets), start.CheckClosed(black(40, 150), 3, sets), want)
	}
	for _, n := range beyond(0, 15) {
		no(api.ErrRange, n)
		no(api.ErrRange, 0, n)
		no(api.ErrRange, n, 0, 0)
		no(api.ErrRange, 3, n, 2)
		no(api.ErrOrder, 3, 2, n)
	}
	no(api.ErrOrder, 0, 0)
	no(api.ErrOrder, 1, 0)
	no(api.ErrOrder, 0, 2, 2, 3)
	no(api.ErrOrder, 0, 2, 4, 3)
	no(api.ErrOrder, 15, 0)
}

// P8.2: what sets prove is that of the definition.
func TestCheckClosedOfMany(t *testing.T) {
	r := rand.New(rand.NewSource(824))
	seen := map[api.Errno]int{}
	for range 5000 {
		x := randomPlant(r, []int{3, 5, 8}[r.Intn(3)])
		i := r.Intn(len(x.Parts))
		sets := closedSets(r, x)
		want := api.OK
		if !slices.Contains(sets, 0) {
			want = api.ErrProof
		}
		for _, set := range sets {
			for next := range x.Parts {
				before := members(set)
				if refused(x, before, next) == api.OK && (next == i || !slices.Contains(sets, setOf(append(before, next)))) {
					want = api.ErrProof
				}
			}
		}
		is(t, fmt.Sprint(sets, " for ", i, " of ", x), start.CheckClosed(x, i, sets), want)
		seen[want]++
	}
	if seen[api.OK] < 500 || seen[api.ErrProof] < 500 {
		t.Errorf("the errors are %v", seen)
	}
}

// closedSets returns sets, often those from which no ready part leads to others.
func closedSets(r *rand.Rand, x start.Plant) []int {
	some := []int{0}
	for range r.Intn(3) {
		some = append(some, r.Intn(1<<len(x.Parts)))
	}
	for k := 0; k < len(some); k++ {
		ready, _ := start.Ready(x, some[k])
		for _, next := range ready {
			if set := some[k] + setOf([]int{next}); !slices.Contains(some, set) {
				some = append(some, set)
			}
		}
	}
	slices.Sort(some)
	some = slices.Compact(some)
	if r.Intn(3) == 0 {
		k := r.Intn(len(some))
		some = slices.Delete(some, k, k+1)
	}
	return some
}
