package start_test

import (
	"fmt"
	"math/rand"
	"slices"
	"testing"

	"bipole/api"
	"bipole/start"
)

// P8.6, P9: the quickest order is an order, with no more minutes than others that end
// with the part, and not fewer than the bound.
func TestConsequencesOfOrders(t *testing.T) {
	r := rand.New(rand.NewSource(861))
	others := 0
	for range 1000 {
		x := randomPlant(r, 8)
		least := map[int]int{}
		for i := range x.Parts {
			order, minutes, e := start.Order(x, i)
			if e != api.OK {
				continue
			}
			what := fmt.Sprint(order, " of ", x)
			least[i] = minutes
			n, _, e := start.CheckOrder(x, order)
			is(t, what, n, minutes)
			is(t, what, e, api.OK)
			is(t, what, order[len(order)-1], i)
			bound, _ := start.Bound(x, i)
			is(t, what, minutes >= bound, true)
		}
		for range 20 {
			order := randomOrder(r, x)
			minutes, _, e := start.CheckOrder(x, order)
			is(t, fmt.Sprint(order, " of ", x), e, api.OK)
			if len(order) > 0 {
				n, found := least[order[len(order)-1]]
				is(t, fmt.Sprint(order, " of ", x), found && minutes >= n, true)
				others++
			}
		}
	}
	if others < 3000 {
		t.Errorf("only %d other orders", others)
	}
}

// P8.6, P9: if there is no order, the sets that can be reached prove it.
func TestConsequencesOfNoOrder(t *testing.T) {
	r := rand.New(rand.NewSource(862))
	seen := map[api.Errno]int{}
	for range 2000 {
		x := randomPlant(r, 8)
		sets, _ := start.Reachable(x)
		for i := range x.Parts {
			want := api.ErrProof
			_, _, e := start.Order(x, i)
			if e == api.ErrInfeasible {
				want = api.OK
			}
			is(t, fmt.Sprint(i, " of ", x), start.CheckClosed(x, i, sets), want)
			seen[e]++
		}
	}
	if seen[api.OK] < 1000 || seen[api.ErrInfeasible] < 1000 {
		t.Errorf("the errors are %v", seen)
	}
}

// P8.6, P9: sets prove that a part cannot be energized exactly if there is no order.
func TestConsequencesOfAllSets(t *testing.T) {
	r := rand.New(rand.NewSource(863))
	seen := map[api.Errno]int{}
	for range 300 {
		x := randomPlant(r, 3)
		for i := range x.Parts {
			proved := false
			for some := range 1 << (1 << len(x.Parts)) {
				proved = proved || start.CheckClosed(x, i, members(some)) == api.OK
			}
			_, _, e := start.Order(x, i)
			is(t, fmt.Sprint(i, " of ", x), e == api.ErrInfeasible, proved)
			seen[e]++
		}
	}
	if seen[api.OK] < 100 || seen[api.ErrInfeasible] < 100 {
		t.Errorf("the errors are %v", seen)
	}
}

// P8.6: an order that is begun later does not end earlier.
func TestConsequencesOfTimes(t *testing.T) {
	r := rand.New(rand.NewSource(864))
	seen := map[string]int{}
	for range 5000 {
		x := randomPlant(r, 8)
		for i := range x.Parts {
			x.Parts[i].Minutes = between(r, 1, 6)
		}
		near := []int{0, 99950}[r.Intn(2)]
		order, blocked, from := randomOrder(r, x), randomSpans(r, near), near+r.Intn(30)
		if len(order) == 0 {
			continue
		}
		last := len(order) - 1
		what := fmt.Sprint(order, " of ", x, " from ", from, " on beside ", blocked)
		ticks, e1 := start.Times(x, order, blocked, from)
		later, e2 := start.Times(x, order, blocked, from+r.Intn(20))
		seen[fmt.Sprint(e1, e2)]++
		switch {
		case e1 != api.OK:
			is(t, what, e2, e1)
		case e2 == api.OK:
			is(t, what, later[last] >= ticks[last], true)
		}
	}
	if len(seen) != 3 || seen["0 0"] < 500 || seen["0 7"] < 50 || seen["7 7"] < 100 {
		t.Errorf("the errors are %v", seen)
	}
}

// P8.6: a greater power never makes a lesser heat, nor settles at one.
func TestConsequencesOfPowers(t *testing.T) {
	r := rand.New(rand.NewSource(865))
	seen := map[string]int{}
	for range 3000 {
		c := randomCooling(r)
		from := heat(r.Intn(c.Limit + 1))
		powers, greater := make([]int, r.Intn(30)), make([]int, 30)
		for i := range powers {
			powers[i] = r.Intn(500)
			greater[i] = between(r, powers[i], 1000)
		}
		what := fmt.Sprint(powers, " and ", greater, " from ", from, " on in ", c)
		cooler, at, e1 := start.Heat(c, from, powers)
		hotter, first, e2 := start.Heat(c, from, greater[:len(powers)])
		seen[fmt.Sprint(e1, e2)]++
		if e1 != api.OK {
			is(t, what, e2, e1)
			is(t, what, first <= at, true)
		}
		for i := range hotter {
			is(t, what, hotter[i] >= cooler[i], true)
		}
		power := r.Intn(1000)
		low, e1 := start.Settled(c, power)
		high, e2 := start.Settled(c, between(r, power, 1000))
		is(t, what, e2 != api.OK || e1 == api.OK && high >= low, true)
	}
	if len(seen) != 3 || seen["0 0"] < 200 || seen["0 30"] < 200 || seen["30 30"] < 200 {
		t.Errorf("the errors are %v", seen)
	}
}

// randomPowers returns powers up to one, which is often among them.
func randomPowers(r *rand.Rand, n, most int) []int {
	powers := make([]int, n)
	for i := range powers {
		powers[i] = most
		if r.Intn(3) == 0 {
			powers[i] = r.Intn(most + 1)
		}
	}
	return powers
}

// isTooHot reports whether it is too hot at last, if a power goes on.
func isTooHot(c start.Cooling, power int) bool {
	from := heat(c.Outside)
	for {
		heats, _, e := start.Heat(c, from, slices.Repeat([]int{power}, 256))
		if e != api.OK {
			return true
		}
		if heats[255] == from {
			return false
		}
		from = heats[255]
	}
}

// P8.6, P9: with the rating no run from the heat outside is too hot, and with one more
// some run is.
func TestConsequencesOfRatings(t *testing.T) {
	r := rand.New(rand.NewSource(866))
	less := 0
	for range 1000 {
		c := randomCooling(r)
		what := fmt.Sprint(c)
		rating, e := start.Rating(c)
		is(t, what, e, api.OK)
		for from := heat(c.Outside); r.Intn(3) > 0; {
			heats, _, e := start.Heat(c, from, randomPowers(r, 256, rating))
			is(t, what, e, api.OK)
			from = heats[255]
		}
		is(t, what, isTooHot(c, rating), false)
		_, e = start.Settled(c, rating)
		is(t, what, e, api.OK)
		if rating < 1000 {
			less++
			is(t, what, isTooHot(c, rating+1), true)
			_, e = start.Settled(c, rating+1)
			is(t, what, e, api.ErrBand)
		}
	}
	if less < 300 {
		t.Errorf("only %d ratings are below the greatest power", less)
	}
}

// P8.6, P9: what is held by a table is never too hot from the heat outside on, if the
// power of each of its rows settles.
func TestConsequencesOfTables(t *testing.T) {
	r := rand.New(rand.NewSource(867))
	lessened := 0
	for range 2000 {
		c := randomCooling(r)
		rating, _ := start.Rating(c)
		l := randomTable(r, r.Intn(c.Limit+1), rating)
		for _, x := range l {
			_, e := start.Settled(c, x.Power)
			is(t, fmt.Sprint(x, " in ", c), e, api.OK)
		}
		wanted := randomPowers(r, 256, 1000)
		what := fmt.Sprint(wanted, " in ", c, " held by ", l)
		powers, heats, e := start.Held(c, l, heat(c.Outside), wanted)
		is(t, what, e, api.OK)
		after, _, e := start.Heat(c, heat(c.Outside), powers)
		isList(t, what, after, heats)
		is(t, what, e, api.OK)
		for i := range powers {
			is(t, what, powers[i] <= wanted[i], true)
		}
		if !slices.Equal(powers, wanted) {
			lessened++
		}
	}
	if lessened < 500 {
		t.Errorf("only %d lists of powers are lessened", lessened)
	}
}

// P8.6: plants are parsed as they were printed.
func TestConsequencesOfTexts(t *testing.T) {
	r := rand.New(rand.NewSource(868))
	for range 2000 {
		x := randomPlant(r, 8)
		s, e := start.Print(x)
		is(t, fmt.Sprint(x), e, api.OK)
		parsed, at, e := start.Parse(s)
		isPlant(t, s, parsed, x)
		is(t, s+": index", at, 0)
		is(t, s+": error", e, api.OK)
		again, _ := start.Print(parsed)
		is(t, s+": printed again", again, s)
	}
}
