package flow_test

import (
	"fmt"
	"math/rand"
	"testing"

	"bipole/api"
	"bipole/flow"
)

// support is the support of the chapter's examples.
var support = flow.Support{Dead: 10, Gain: 512, Reserve: 20}

// P5.4: each function asks for the support before all else.
func TestBadSupports(t *testing.T) {
	var bad []flow.Support
	for _, n := range beyond(0, 10000) {
		bad = append(bad, flow.Support{Dead: n}, flow.Support{Dead: n, Gain: 1000, Reserve: 1000})
	}
	for _, n := range beyond(0, 1000) {
		bad = append(bad, flow.Support{Gain: n}, flow.Support{Reserve: n}, flow.Support{Dead: 1, Gain: n, Reserve: n})
	}
	for _, x := range bad {
		what := fmt.Sprint(x)
		is(t, what, flow.CheckSupport(x), api.ErrRange)
		power, e := flow.Supported(x, 5)
		is(t, what, power, 0)
		is(t, what, e, api.ErrRange)
		for _, l := range [][]int{nil, {5}, make([]int, 257)} {
			powers, e := flow.Responses(x, l)
			isList(t, what, powers, nil)
			is(t, what, e, api.ErrRange)
		}
	}
	for _, x := range []flow.Support{support, {}, {Dead: 10000}, {Gain: 1000}, {Reserve: 1000}, {Dead: 10000, Gain: 1000, Reserve: 1000}} {
		is(t, fmt.Sprint(x), flow.CheckSupport(x), api.OK)
	}
}

// P5.4
func TestBadDeviations(t *testing.T) {
	for _, n := range beyond(-10000, 10000) {
		what := fmt.Sprint("the deviation ", n)
		power, e := flow.Supported(support, n)
		is(t, what, power, 0)
		is(t, what, e, api.ErrRange)
		for _, l := range [][]int{{n}, {50, n}, {n, 50}, append(make([]int, 255), n)} {
			powers, e := flow.Responses(support, l)
			isList(t, what, powers, nil)
			is(t, what, e, api.ErrRange)
		}
		powers, e := flow.Responses(support, append(make([]int, 256), n))
		isList(t, what, powers, nil)
		is(t, what, e, api.ErrMany)
	}
}

// P5.4
func TestSupported(t *testing.T) {
	for _, x := range []struct {
		x                flow.Support
		deviation, power int
	}{
		{support, 30, -10}, {support, -100, 20}, {support, 10, 0}, {support, 13, -1}, {support, -13, 1}, {support, -10, 0}, {support, 11, 0}, {support, -11, 0}, {support, 12, -1}, {support, -12, 1}, {support, 0, 0},
		{support, 49, -19}, {support, 50, -20}, {support, 51, -20}, {support, 52, -20}, {support, -49, 19}, {support, -50, 20}, {support, -52, 20}, {support, 10000, -20}, {support, -10000, 20},
		{flow.Support{Gain: 1000, Reserve: 1000}, 1, 0}, {flow.Support{Gain: 1000, Reserve: 1000}, -1, 0}, {flow.Support{Gain: 1000, Reserve: 1000}, 2, -1}, {flow.Support{Gain: 1000, Reserve: 1000}, -2, 1},
		{flow.Support{Gain: 1000, Reserve: 1000}, 1023, -999}, {flow.Support{Gain: 1000, Reserve: 1000}, 1024, -1000}, {flow.Support{Gain: 1, Reserve: 1000}, 10000, -9}, {flow.Support{Gain: 1, Reserve: 1000}, -1024, 1}, {flow.Support{Gain: 1, Reserve: 1000}, -1023, 0},
		{flow.Support{Dead: 10000, Gain: 1000, Reserve: 1000}, 10000, 0}, {flow.Support{Dead: 9999, Gain: 1000, Reserve: 1000}, -10000, 0}, {flow.Support{Dead: 9000, Gain: 1000, Reserve: 1000}, -10000, 976},
		{flow.Support{Gain: 1000}, 10000, 0}, {flow.Support{Reserve: 1000}, -10000, 0}, {flow.Support{}, -10000, 0},
	} {
		power, e := flow.Supported(x.x, x.deviation)
		is(t, fmt.Sprint(x.x, " at ", x.deviation), power, x.power)
		is(t, fmt.Sprint(x.x, " at ", x.deviation), e, api.OK)
	}
}

// supportedOf returns the power that a support adds, by the definition.
func supportedOf(x flow.Support, deviation int) int {
	if deviation < 0 {
		return -supportedOf(x, -deviation)
	}
	power := 0
	for deviation > x.Dead && power < x.Reserve && (power+1)*1024 <= x.Gain*(deviation-x.Dead) {
		power++
	}
	return -power
}

// P5.4
func TestResponses(t *testing.T) {
	r := rand.New(rand.NewSource(541))
	for range 500 {
		x := flow.Support{Dead: r.Intn([]int{2, 200, 10001}[r.Intn(3)]), Gain: r.Intn(1001), Reserve: r.Intn(1001)}
		l := make([]int, r.Intn(40))
		var want []int
		for i := range l {
			l[i] = between(r, -10000, 10000) / []int{1, 10, 1000}[r.Intn(3)]
			want = append(want, supportedOf(x, l[i]))
		}
		powers, e := flow.Responses(x, l)
		isList(t, fmt.Sprint(x, l), powers, want)
		is(t, fmt.Sprint(x, l), e, api.OK)
	}
	powers, e := flow.Responses(support, make([]int, 256))
	isList(t, "the most deviations", powers, make([]int, 256))
	is(t, "the most deviations", e, api.OK)
	powers, e = flow.Responses(support, make([]int, 257))
	isList(t, "too many deviations", powers, nil)
	is(t, "too many deviations", e, api.ErrMany)
	powers, e = flow.Responses(support, nil)
	isList(t, "no deviations", powers, nil)
	is(t, "no deviations", e, api.OK)
}

// trip is the trip of the chapter's examples.
var trip = flow.Trip{Limit: 100, Most: 200, Chop: 30, Fall: 20}

// notRun fails a test if a run does not have an error with an index.
func notRun(t *testing.T, x flow.Trip, s flow.State, index int, want api.Errno) {
	t.Helper()
	what := fmt.Sprint(x, " from ", s)
	run, at, e := flow.Run(x, s)
	isList(t, what, run, nil)
	is(t, what, at, index)
	is(t, what, e, want)
}

// P5.4: a trip is asked for before a state.
func TestBadTrips(t *testing.T) {
	var bad []flow.Trip
	for _, n := range beyond(0, 10000) {
		bad = append(bad, flow.Trip{Limit: n, Most: 5, Chop: 1, Fall: 1}, flow.Trip{Limit: 0, Most: n, Chop: 1, Fall: 1})
	}
	for _, n := range beyond(1, 10000) {
		bad = append(bad, flow.Trip{Limit: 1, Most: 5, Chop: n, Fall: 1}, flow.Trip{Limit: 1, Most: 5, Chop: 1, Fall: n}, flow.Trip{Limit: 5, Most: 1, Chop: n, Fall: 1}, flow.Trip{Limit: 5, Most: 1, Chop: 1, Fall: n})
	}
	for _, x := range bad {
		is(t, fmt.Sprint(x), flow.CheckTrip(x), api.ErrRange)
		notRun(t, x, flow.State{Voltage: 1}, 0, api.ErrRange)
		notRun(t, x, flow.State{Voltage: -1}, 0, api.ErrRange)
	}
	for _, x := range []flow.Trip{{Limit: 2, Most: 1, Chop: 1, Fall: 1}, {Limit: 10000, Most: 0, Chop: 10000, Fall: 10000}} {
		is(t, fmt.Sprint(x), flow.CheckTrip(x), api.ErrOrder)
		notRun(t, x, flow.State{}, 0, api.ErrOrder)
		notRun(t, x, flow.State{Voltage: -1, Inflow: -1}, 0, api.ErrOrder)
	}
	for _, x := range []flow.Trip{trip, {Chop: 1, Fall: 1}, {Limit: 10000, Most: 10000, Chop: 10000, Fall: 10000}, {Limit: 7, Most: 7, Chop: 1, Fall: 1}} {
		is(t, fmt.Sprint(x), flow.CheckTrip(x), api.OK)
	}
}

// P5.4
func TestBadStates(t *testing.T) {
	for _, n := range beyond(0, 200) {
		notRun(t, trip, flow.State{Voltage: n}, 0, api.ErrRange)
		notRun(t, trip, flow.State{Voltage: n, Inflow: 10000}, 0, api.ErrRange)
	}
	for _, n := range beyond(0, 10000) {
		notRun(t, trip, flow.State{Inflow: n}, 0, api.ErrRange)
		notRun(t, trip, flow.State{Voltage: 201, Inflow: n}, 0, api.ErrRange)
	}
	notRun(t, flow.Trip{Chop: 1, Fall: 1}, flow.State{Voltage: 1}, 0, api.ErrRange)
}

// P5.4
func TestRun(t *testing.T) {
	for _, x := range []struct {
		x    flow.Trip
		want []flow.State
	}{
		{trip, []flow.State{{Voltage: 120, Inflow: 50}, {Voltage: 140, Inflow: 30}, {Voltage: 140, Inflow: 10}, {Voltage: 120}, {Voltage: 90}}},
		{trip, []flow.State{{Voltage: 100}}}, {trip, []flow.State{{}}}, {trip, []flow.State{{Voltage: 101}, {Voltage: 71}}},
		{trip, []flow.State{{Inflow: 1}, {Voltage: 1}}}, {trip, []flow.State{{Voltage: 100, Inflow: 20}, {Voltage: 120}, {Voltage: 90}}}, {trip, []flow.State{{Voltage: 101, Inflow: 20}, {Voltage: 91}}}, {trip, []flow.State{{Voltage: 200, Inflow: 30}, {Voltage: 200, Inflow: 10}, {Voltage: 180}, {Voltage: 150}, {Voltage: 120}, {Voltage: 90}}},
		{flow.Trip{Limit: 5, Most: 200, Chop: 30, Fall: 20}, []flow.State{{Voltage: 6, Inflow: 21}, {Voltage: 0, Inflow: 1}, {Voltage: 1}}},
		{flow.Trip{Limit: 5, Most: 200, Chop: 27, Fall: 21}, []flow.State{{Voltage: 6, Inflow: 21}, {}}},
		{flow.Trip{Limit: 0, Most: 10000, Chop: 10000, Fall: 10000}, []flow.State{{Voltage: 10000, Inflow: 10000}, {Voltage: 10000}, {}}},
		{flow.Trip{Limit: 10000, Most: 10000, Chop: 1, Fall: 10000}, []flow.State{{Voltage: 0, Inflow: 10000}, {Voltage: 10000}}},
		{flow.Trip{Limit: 0, Most: 0, Chop: 1, Fall: 1}, []flow.State{{}}},
	} {
		what := fmt.Sprint(x.x, " from ", x.want[0])
		run, at, e := flow.Run(x.x, x.want[0])
		isList(t, what, run, x.want)
		is(t, what, at, 0)
		is(t, what, e, api.OK)
	}
}

// P5.4
func TestRunAboveMost(t *testing.T) {
	for most, index := range map[int]int{120: 1, 139: 1, 140: 0, 200: 0} {
		x := flow.Trip{Limit: 100, Most: most, Chop: 30, Fall: 20}
		if index > 0 {
			notRun(t, x, flow.State{Voltage: 120, Inflow: 50}, index, api.ErrBand)
			continue
		}
		run, _, e := flow.Run(x, flow.State{Voltage: 120, Inflow: 50})
		is(t, fmt.Sprint(x), len(run), 5)
		is(t, fmt.Sprint(x), e, api.OK)
	}
	notRun(t, flow.Trip{Chop: 1, Fall: 1}, flow.State{Inflow: 1}, 1, api.ErrBand)
	notRun(t, flow.Trip{Chop: 10000, Fall: 10000}, flow.State{Inflow: 10000}, 1, api.ErrBand)
	notRun(t, flow.Trip{Limit: 9, Most: 9, Chop: 3, Fall: 1}, flow.State{Inflow: 4}, 4, api.ErrBand)
	notRun(t, flow.Trip{Limit: 8, Most: 8, Chop: 3, Fall: 1}, flow.State{Inflow: 4}, 3, api.ErrBand)
	notRun(t, flow.Trip{Limit: 10000, Most: 10000, Chop: 1, Fall: 1}, flow.State{Inflow: 10000}, 2, api.ErrBand)
}

// P5.4
func TestRunOfManyStates(t *testing.T) {
	slow := flow.Trip{Limit: 0, Most: 10000, Chop: 1, Fall: 1}
	run, at, e := flow.Run(slow, flow.State{Voltage: 256})
	is(t, "the longest run", len(run), 257)
	is(t, "the longest run", run[255], flow.State{Voltage: 1})
	is(t, "the longest run", run[256], flow.State{})
	is(t, "the longest run", at, 0)
	is(t, "the longest run", e, api.OK)
	notRun(t, slow, flow.State{Voltage: 257}, 0, api.ErrLimit)
	notRun(t, slow, flow.State{Voltage: 10000}, 0, api.ErrLimit)
	// From 0 on the voltage is 0 and above the limit in turns, until an inflow is
	// not above the limit: then comes a voltage of 400 and 399.
	late := flow.Trip{Limit: 400, Most: 798, Chop: 10000, Fall: 1}
	notRun(t, late, flow.State{Voltage: 0, Inflow: 652}, 254, api.ErrBand)
	notRun(t, late, flow.State{Voltage: 401, Inflow: 653}, 255, api.ErrBand)
	notRun(t, late, flow.State{Voltage: 0, Inflow: 654}, 256, api.ErrBand)
	notRun(t, late, flow.State{Voltage: 401, Inflow: 655}, 0, api.ErrLimit)
	notRun(t, late, flow.State{Voltage: 0, Inflow: 656}, 0, api.ErrLimit)
}

// runOf returns a run state by state, by the definition.
func runOf(x flow.Trip, s flow.State) ([]flow.State, int, api.Errno) {
	run := []flow.State{s}
	for s.Inflow != 0 || s.Voltage > x.Limit {
		next := flow.State{Voltage: s.Voltage + s.Inflow, Inflow: s.Inflow - x.Fall}
		if s.Voltage > x.Limit {
			next.Voltage -= x.Chop
		}
		s = flow.State{Voltage: max(0, next.Voltage), Inflow: max(0, next.Inflow)}
		run = append(run, s)
		if len(run) > 257 {
			return nil, 0, api.ErrLimit
		}
		if s.Voltage > x.Most {
			return nil, len(run) - 1, api.ErrBand
		}
	}
	return run, 0, api.OK
}

// randomTrip returns a trip and a state of it.
func randomTrip(r *rand.Rand) (flow.Trip, flow.State) {
	most := between(r, 0, []int{20, 500, 10000}[r.Intn(3)])
	some := func() int { return between(r, 1, []int{2, 50, 1000}[r.Intn(3)]) }
	x := flow.Trip{Limit: r.Intn(most + 1), Most: most, Chop: some(), Fall: some()}
	return x, flow.State{Voltage: r.Intn(most + 1), Inflow: some() - 1}
}

// P5.4: runs are those of the definition.
func TestRunsOfMany(t *testing.T) {
	r := rand.New(rand.NewSource(542))
	seen := map[api.Errno]int{}
	for range 20000 {
		x, s := randomTrip(r)
		what := fmt.Sprint(x, " from ", s)
		want, index, wanted := runOf(x, s)
		run, at, e := flow.Run(x, s)
		isList(t, what, run, want)
		is(t, what, at, index)
		is(t, what, e, wanted)
		seen[e]++
	}
	if len(seen) != 3 || seen[api.OK] < 1000 || seen[api.ErrBand] < 1000 || seen[api.ErrLimit] < 500 {
		t.Errorf("the errors are %v", seen)
	}
}
