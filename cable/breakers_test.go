package cable_test

import (
	"fmt"
	"math/rand"
	"testing"

	"bipole/api"
	"bipole/cable"
)

// notOpened fails a test if a breaker opens, or there is another error.
func notOpened(t *testing.T, what string, l []cable.Arrival, end string, from, limit, window int, want api.Errno) {
	t.Helper()
	what = fmt.Sprint(what, " at ", end, " from ", from, " by ", limit, " in ", window)
	tick, e := cable.Opening(l, end, from, limit, window)
	is(t, what, tick, 0)
	is(t, what, e, want)
}

// P6.4: arrivals, the end, the tick, the limit and the window are asked for in
// this order.
func TestBadOpening(t *testing.T) {
	eachBadArrivals(func(what string, l []cable.Arrival, e api.Errno) {
		notOpened(t, what, l, "A", 5, 1, 5, e)
		notOpened(t, what, l, "C", -1, 0, -1, e)
	})
	for _, end := range badEnds {
		notOpened(t, "", heard(), end, 5, 1, 5, api.ErrKind)
		notOpened(t, "", nil, end, -1, 0, -1, api.ErrKind)
	}
	for _, n := range beyond(0, 999999999) {
		notOpened(t, "", heard(), "A", n, 1, 5, api.ErrRange)
	}
	for _, n := range beyond(1, 1<<40) {
		notOpened(t, "", heard(), "A", 5, n, 5, api.ErrRange)
	}
	for _, n := range beyond(0, 1000) {
		notOpened(t, "", heard(), "A", 5, 1, n, api.ErrRange)
	}
}

// P6.4
func TestOpening(t *testing.T) {
	swing := []cable.Arrival{{Tick: 10, End: "A", Height: 50}, {Tick: 10, End: "B", Height: -90}, {Tick: 20, End: "A", Height: -80}, {Tick: 20, End: "B", Height: 40}, {Tick: 30, End: "A", Height: 25}}
	for _, x := range []struct {
		l                   []cable.Arrival
		end                 string
		from, limit, window int
		want                int // -1 if the breaker does not open
	}{
		{heard(), "A", 105, 21 * unit, 10, 105}, {heard(), "A", 105, 16 * unit, 10, -1}, {heard(), "A", 105, 16*unit + 1, 10, 105}, {heard(), "A", 107, 20*unit + 1, 10, 107}, {heard(), "A", 107, 20 * unit, 1000, -1}, {heard(), "B", 105, 1, 1000, 105}, {heard(), "B", 109, 20 * unit, 1000, -1},
		{swing, "A", 10, 50, 10, 20}, {swing, "A", 10, 50, 9, -1}, {swing, "A", 9, 50, 0, 9}, {swing, "A", 10, 51, 0, 10}, {swing, "A", 11, 31, 1000, 20}, {swing, "A", 11, 30, 1000, 30}, {swing, "A", 11, 30, 19, 30}, {swing, "A", 11, 30, 18, -1}, {swing, "A", 12, 5, 1000, -1}, {swing, "A", 12, 6, 1000, 30}, {swing, "A", 999999999, 6, 1000, 999999999}, {swing, "A", 999999999, 5, 1000, -1},
		{swing, "B", 10, 90, 1000, 20}, {swing, "B", 10, 91, 1000, 10}, {swing, "B", 10, 50, 1000, -1}, {swing, "B", 10, 51, 10, 20}, {swing, "B", 0, 1, 0, 0},
		{nil, "A", 0, 1, 0, 0}, {nil, "B", 999999999, 1 << 40, 1000, 999999999}, {manyArrivals(2048), "A", 0, 3, 1000, 0}, {manyArrivals(2048), "A", 3, 3, 1000, -1},
		{[]cable.Arrival{{Tick: 1, End: "A", Height: 1 << 44}}, "A", 1, 1 << 40, 1000, -1}, {[]cable.Arrival{{Tick: 1, End: "A", Height: 1 << 44}, {Tick: 1001, End: "A", Height: 1 - 1<<44}}, "A", 1, 2, 1000, 1001}, {[]cable.Arrival{{Tick: 1, End: "A", Height: 1 << 44}, {Tick: 1001, End: "A", Height: 1 - 1<<44}}, "A", 1, 2, 999, -1},
	} {
		if x.want < 0 {
			notOpened(t, fmt.Sprint(x.l), x.l, x.end, x.from, x.limit, x.window, api.ErrNone)
			continue
		}
		what := fmt.Sprint(x.l, " at ", x.end, " from ", x.from, " by ", x.limit, " in ", x.window)
		tick, e := cable.Opening(x.l, x.end, x.from, x.limit, x.window)
		is(t, what, tick, x.want)
		is(t, what, e, api.OK)
	}
}

// openingOf returns the first tick at which a breaker opens, by the definition.
func openingOf(l []cable.Arrival, end string, from, limit, window int) (int, api.Errno) {
	for tick := from; tick <= from+window; tick++ {
		if sum := sumOf(l, end, tick); sum < limit && -sum < limit {
			return tick, api.OK
		}
	}
	return 0, api.ErrNone
}

// randomArrivals returns arrivals from a tick on.
func randomArrivals(r *rand.Rand, tick int) []cable.Arrival {
	var l []cable.Arrival
	for range r.Intn(12) {
		for _, end := range bothEnds {
			if r.Intn(3) > 0 {
				l = append(l, cable.Arrival{Tick: tick, End: end, Height: between(r, -20, 20)})
			}
		}
		tick += between(r, 1, 9)
	}
	return l
}

// P6.4: openings are those of the definition.
func TestOpeningsOfMany(t *testing.T) {
	r := rand.New(rand.NewSource(642))
	seen := map[string]int{}
	for range 5000 {
		l := randomArrivals(r, 50)
		end, from, limit, window := bothEnds[r.Intn(2)], between(r, 45, 90), between(r, 1, 20), r.Intn(50)
		what := fmt.Sprint(l, " at ", end, " from ", from, " by ", limit, " in ", window)
		want, wanted := openingOf(l, end, from, limit, window)
		tick, e := cable.Opening(l, end, from, limit, window)
		is(t, what, tick, want)
		is(t, what, e, wanted)
		seen[fmt.Sprint(e, tick > from)]++
	}
	if len(seen) != 3 || seen["0 true"] < 200 || seen["7 false"] < 500 {
		t.Errorf("the errors are %v", seen)
	}
}

// plan is the plan of the chapter's examples.
var plan = cable.Plan{Thresholds: [2]int{12 * unit, 12 * unit}, Wait: 2, Limit: 21 * unit, Window: 10}

// notCleared fails a test if a fault is cleared, or there is another error.
func notCleared(t *testing.T, what string, c cable.Cable, f cable.Fault, p cable.Plan, want api.Errno) {
	t.Helper()
	ticks, e := cable.Cleared(c, f, p)
	is(t, what, ticks, [2]int{})
	is(t, what, e, want)
}

// P6.4
func TestBadPlans(t *testing.T) {
	eachBadFault(func(what string, c cable.Cable, f cable.Fault, e api.Errno) {
		notCleared(t, what, c, f, plan, e)
		notCleared(t, what, c, f, cable.Plan{}, e)
	})
	var bad []cable.Plan
	for _, n := range beyond(1, 1<<40) {
		a, b, limit := plan, plan, plan
		a.Thresholds[0] = n
		b.Thresholds[1] = n
		limit.Limit = n
		bad = append(bad, a, b, limit)
	}
	for _, n := range beyond(0, 100000) {
		wait := plan
		wait.Wait = n
		bad = append(bad, wait)
	}
	for _, n := range beyond(0, 1000) {
		window := plan
		window.Window = n
		bad = append(bad, window)
	}
	for _, p := range bad {
		notCleared(t, fmt.Sprint(p), shown(), fault, p, api.ErrRange)
	}
}

// planned returns the plan of the examples with other numbers.
func planned(a, b, wait, limit, window int) cable.Plan {
	return cable.Plan{Thresholds: [2]int{a, b}, Wait: wait, Limit: limit, Window: window}
}

// P6.4: the trips of both ends are asked for before the openings.
func TestCleared(t *testing.T) {
	u := unit
	deaf := shown()
	deaf.Joints[0] = -8
	notCleared(t, "A does not trip", shown(), fault, planned(16*u+1, 1, 2, 21*u, 10), api.ErrTrip)
	notCleared(t, "B does not trip", shown(), fault, planned(1, 20*u+1, 2, 21*u, 10), api.ErrTrip)
	notCleared(t, "B does not trip in the window", shown(), fault, planned(1, 1, 2, 21*u, 8), api.ErrTrip)
	notCleared(t, "no end trips in the window", shown(), fault, planned(1, 1, 2, 1, 0), api.ErrTrip)
	notCleared(t, "B hears nothing", deaf, fault, planned(1, 1, 2, 1, 1000), api.ErrTrip)
	notCleared(t, "B does not trip, A does not open", shown(), fault, planned(1, 20*u+1, 2, 1, 10), api.ErrTrip)
	notCleared(t, "A does not open", shown(), fault, planned(1, 1, 2, 16*u, 10), api.ErrOpen)
	notCleared(t, "B does not open", shown(), fault, planned(1, 1, 2, 20*u, 10), api.ErrOpen)
	notCleared(t, "A does not open any more", shown(), fault, planned(1, 1, 100000, 22*u, 10), api.ErrOpen)
	for _, x := range []struct {
		c    cable.Cable
		f    cable.Fault
		p    cable.Plan
		want [2]int
	}{
		{shown(), fault, plan, [2]int{103, 111}}, {shown(), fault, planned(16*u, 20*u, 0, 20*u+1, 9), [2]int{101, 109}}, {shown(), fault, planned(1, 1, 100000, 22*u+1, 10), [2]int{100101, 100109}},
		// The sum at A is 16 U at 1, 8 U at 7 and 12 U at 9; at B it is 16 U at 3 and 8 U at 5.
		{single(5, 4, -4, -4), cable.Fault{Offset: 1, Height: 16}, planned(1, 1, 1, 9*u, 10), [2]int{7, 5}}, {single(5, 4, -4, -4), cable.Fault{Offset: 1, Height: -16}, planned(16*u, 16*u, 7, 13*u, 10), [2]int{8, 10}},
	} {
		what := fmt.Sprint(x.p, ": ", x.f, " of ", x.c)
		ticks, e := cable.Cleared(x.c, x.f, x.p)
		is(t, what, ticks, x.want)
		is(t, what, e, api.OK)
	}
}

// clearedOf returns the ticks at which both breakers open, by the definition.
func clearedOf(c cable.Cable, f cable.Fault, p cable.Plan) ([2]int, api.Errno) {
	l := arrivalsOf(c, stepsOf(c, f, p.Window))
	firsts := map[string]cable.Arrival{}
	for _, a := range l {
		if _, heard := firsts[a.End]; !heard {
			firsts[a.End] = a
		}
	}
	for i, end := range bothEnds {
		if height := firsts[end].Height; height < p.Thresholds[i] && -height < p.Thresholds[i] {
			return [2]int{}, api.ErrTrip
		}
	}
	a, e := openingOf(l, "A", firsts["A"].Tick+p.Wait, p.Limit, p.Window)
	b, e2 := openingOf(l, "B", firsts["B"].Tick+p.Wait, p.Limit, p.Window)
	if e != api.OK || e2 != api.OK {
		return [2]int{}, api.ErrOpen
	}
	return [2]int{a, b}, api.OK
}

// P6.4: faults are cleared as in the definition.
func TestClearedOfMany(t *testing.T) {
	r := rand.New(rand.NewSource(643))
	seen := map[string]int{}
	for range 4000 {
		c := randomCable(r)
		f := randomFault(r, c)
		p := planned(1, between(r, 1, 20*unit), r.Intn(40), between(r, 1, []int{10, 30, 400}[r.Intn(3)]*unit), r.Intn([]int{60, 1001}[r.Intn(2)]))
		if r.Intn(3) == 0 {
			p.Thresholds = [2]int{p.Thresholds[1], p.Thresholds[0]}
		}
		what := fmt.Sprint(p, ": ", f, " of ", c)
		want, wanted := clearedOf(c, f, p)
		ticks, e := cable.Cleared(c, f, p)
		is(t, what, ticks, want)
		is(t, what, e, wanted)
		first, _ := cable.Direct(c, f, "A")
		seen[fmt.Sprint(e, ticks[0] > first[0]+p.Wait)]++
	}
	if len(seen) != 4 || seen["0 true"] < 30 || seen["0 false"] < 200 || seen["31 false"] < 200 || seen["32 false"] < 200 {
		t.Errorf("the errors are %v", seen)
	}
}
