package cable_test

import (
	"fmt"
	"math/big"
	"math/rand"
	"testing"

	"bipole/api"
	"bipole/cable"
)

// noFactor fails a test if there is a factor, or another error.
func noFactor(t *testing.T, what string, c cable.Cable, section int, end string, want api.Errno) {
	t.Helper()
	x, e := cable.Factor(c, section, end)
	is(t, what, x, api.Ratio{})
	is(t, what, e, want)
}

// P6.3: a cable is asked for before a section, and this before an end.
func TestNoFactor(t *testing.T) {
	eachBadCable(func(what string, c cable.Cable, e api.Errno) {
		noFactor(t, what, c, 0, "A", e)
		noFactor(t, what, c, -1, "C", e)
	})
	for _, n := range beyond(0, 1) {
		noFactor(t, fmt.Sprint("the section ", n), shown(), n, "A", api.ErrUnknown)
		noFactor(t, fmt.Sprint("the section ", n), shown(), n, "C", api.ErrUnknown)
	}
	for _, end := range badEnds {
		noFactor(t, end, shown(), 1, end, api.ErrKind)
	}
}

// factorOf returns the factor of a section to an end, by the definition.
func factorOf(c cable.Cable, section int, end string) *big.Rat {
	product := big.NewRat(1, 1)
	for i, r := range c.Joints {
		switch {
		case end == "B" && i >= section:
			product.Mul(product, big.NewRat(int64(8+r), 8))
		case end == "A" && i < section:
			product.Mul(product, big.NewRat(int64(8-r), 8))
		}
	}
	return product
}

// P6.3
func TestFactor(t *testing.T) {
	three := cable.Cable{Sections: sections([2]int{1, 1}, [2]int{1, 1}, [2]int{1, 1}), Joints: []int{-2, 8}, Ends: [2]int{3, 3}}
	for _, x := range []struct {
		c       cable.Cable
		section int
		end     string
		want    api.Ratio
	}{
		{shown(), 0, "A", ratio(1, 1)}, {shown(), 0, "B", ratio(5, 4)}, {shown(), 1, "A", ratio(3, 4)}, {shown(), 1, "B", ratio(1, 1)},
		{three, 0, "A", ratio(1, 1)}, {three, 1, "A", ratio(5, 4)}, {three, 2, "A", ratio(0, 1)}, {three, 0, "B", ratio(3, 2)}, {three, 1, "B", ratio(2, 1)}, {three, 2, "B", ratio(1, 1)},
		{longest(8), 0, "B", ratio(32, 1)}, {longest(8), 1, "A", ratio(0, 1)}, {longest(-8), 5, "A", ratio(32, 1)}, {longest(7), 0, "B", ratio(759375, 32768)}, {longest(7), 5, "A", ratio(1, 32768)}, {longest(7), 4, "A", ratio(1, 4096)},
		{single(5, 1, 8, 8), 0, "A", ratio(1, 1)}, {single(5, 1, 8, 8), 0, "B", ratio(1, 1)},
	} {
		what := fmt.Sprint(x.section, " of ", x.c, " to ", x.end)
		f, e := cable.Factor(x.c, x.section, x.end)
		is(t, what, f, x.want)
		is(t, what, e, api.OK)
	}
	r := rand.New(rand.NewSource(631))
	for range 1000 {
		c := randomCable(r)
		section, end := r.Intn(len(c.Sections)), bothEnds[r.Intn(2)]
		f, e := cable.Factor(c, section, end)
		is(t, fmt.Sprint(section, " of ", c, " to ", end), f, lowest(factorOf(c, section, end)))
		is(t, fmt.Sprint(section, " of ", c, " to ", end), e, api.OK)
	}
}

// zone is the zone of the chapter's examples.
var zone = cable.Zone{Sections: api.Span{From: 0, To: 1}, Least: 12, Most: 15, End: "A"}

// badZones returns zones of a cable with so many sections, with each error, most
// of them with later errors, too.
func badZones(n int) map[api.Errno][]cable.Zone {
	l := map[api.Errno][]cable.Zone{}
	for _, s := range [][2]int{{0, 0}, {n - 1, n - 1}, {n, n}, {1, 0}, {n, n - 1}, {-1, 1}, {-1, n}, {0, n + 1}, {n - 1, n + 1}, {n, n + 1}, {n + 1, n}, {-2, -1}, {-1 << 63, 1<<63 - 1}, {1<<63 - 1, -1 << 63}} {
		span := api.Span{From: s[0], To: s[1]}
		l[api.ErrSpan] = append(l[api.ErrSpan], cable.Zone{Sections: span, Least: 1, Most: 1, End: "A"}, cable.Zone{Sections: span, End: "C"}, cable.Zone{Sections: span, Least: 2000, Most: 1, End: "B"})
	}
	for _, height := range beyond(1, 1024) {
		least, most, both := zone, zone, zone
		least.Least = height
		most.Most = height
		both.Least, both.End = height, "C"
		l[api.ErrRange] = append(l[api.ErrRange], least, most, both)
		both.Least, both.Most = 1, height
		l[api.ErrRange] = append(l[api.ErrRange], both)
	}
	for _, end := range badEnds {
		none := zone
		none.End = end
		l[api.ErrKind] = append(l[api.ErrKind], none)
	}
	return l
}

// eachBadZone calls a function with zones of a cable with so many sections, and
// with the error that they have.
func eachBadZone(n int, f func(what string, z cable.Zone, e api.Errno)) {
	for e, zones := range badZones(n) {
		for _, z := range zones {
			f(fmt.Sprint("the zone ", z), z, e)
		}
	}
}

// noThresholds fails a test if there are thresholds, or another error.
func noThresholds(t *testing.T, what string, c cable.Cable, z cable.Zone, want api.Errno) {
	t.Helper()
	x, e := cable.Thresholds(c, z)
	is(t, what, x, api.Interval{})
	is(t, what, e, want)
}

// P6.3
func TestNoThresholds(t *testing.T) {
	eachBadCable(func(what string, c cable.Cable, e api.Errno) {
		noThresholds(t, what, c, zone, e)
		noThresholds(t, what, c, cable.Zone{}, e)
		noThresholds(t, what, c, cable.Zone{Sections: api.Span{To: 6}}, e)
	})
	eachBadZone(2, func(what string, z cable.Zone, e api.Errno) {
		noThresholds(t, what, shown(), z, e)
	})
	eachBadZone(6, func(what string, z cable.Zone, e api.Errno) {
		noThresholds(t, what, longest(1), z, e)
	})
	for _, most := range []int{16, 17, 1024} {
		z := zone
		z.Most = most
		noThresholds(t, fmt.Sprint(z), shown(), z, api.ErrInfeasible)
	}
	noThresholds(t, "a zone that is not heard", longest(8), cable.Zone{Sections: api.Span{From: 1, To: 6}, Least: 1024, Most: 1, End: "A"}, api.ErrInfeasible)
	noThresholds(t, "a zone of which a part is not heard", longest(8), cable.Zone{Sections: api.Span{From: 0, To: 6}, Least: 1024, Most: 1, End: "A"}, api.ErrInfeasible)
	noThresholds(t, "the same heights", longest(0), cable.Zone{Sections: api.Span{From: 0, To: 5}, Least: 7, Most: 7, End: "A"}, api.ErrInfeasible)
}

// P6.3
func TestThresholds(t *testing.T) {
	for _, x := range []struct {
		c    cable.Cable
		z    cable.Zone
		want api.Interval
	}{
		{shown(), zone, api.Interval{Low: 2949121, High: 3145728}},
		{shown(), cable.Zone{Sections: api.Span{From: 1, To: 2}, Least: 20, Most: 15, End: "B"}, api.Interval{Low: 15*5*unit/4 + 1, High: 20 * unit}},
		{shown(), cable.Zone{Sections: api.Span{From: 0, To: 1}, Least: 12, Most: 14, End: "B"}, api.Interval{Low: 14*unit + 1, High: 15 * unit}},
		{shown(), cable.Zone{Sections: api.Span{From: 0, To: 2}, Least: 1, Most: 1024, End: "B"}, api.Interval{Low: 1, High: unit}},
		{shown(), cable.Zone{Sections: api.Span{From: 0, To: 2}, Least: 1, Most: 1, End: "A"}, api.Interval{Low: 1, High: 3 * unit / 4}},
		{longest(8), cable.Zone{Sections: api.Span{From: 0, To: 1}, Least: 1, Most: 1024, End: "A"}, api.Interval{Low: 1, High: unit}},
		{longest(8), cable.Zone{Sections: api.Span{From: 0, To: 1}, Least: 1024, Most: 1024, End: "B"}, api.Interval{Low: 1<<32 + 1, High: 1 << 33}},
		{longest(8), cable.Zone{Sections: api.Span{From: 1, To: 3}, Least: 3, Most: 1, End: "A"}, api.Interval{}},
		{longest(7), cable.Zone{Sections: api.Span{From: 0, To: 6}, Least: 1, Most: 1, End: "A"}, api.Interval{Low: 1, High: 8}},
		{longest(0), cable.Zone{Sections: api.Span{From: 2, To: 3}, Least: 8, Most: 7, End: "A"}, api.Interval{Low: 7*unit + 1, High: 8 * unit}},
		{single(5, 1, 8, 8), cable.Zone{Sections: api.Span{From: 0, To: 1}, Least: 1024, Most: 1024, End: "A"}, api.Interval{Low: 1, High: 1024 * unit}},
	} {
		if x.want == (api.Interval{}) {
			noThresholds(t, fmt.Sprint(x.z, " of ", x.c), x.c, x.z, api.ErrInfeasible)
			continue
		}
		l, e := cable.Thresholds(x.c, x.z)
		is(t, fmt.Sprint(x.z, " of ", x.c), l, x.want)
		is(t, fmt.Sprint(x.z, " of ", x.c), e, api.OK)
	}
}

// isThreshold reports whether an integer is a threshold of a zone, by the definition.
func isThreshold(c cable.Cable, z cable.Zone, n int) bool {
	threshold := big.NewRat(int64(n), unit)
	for section := range c.Sections {
		factor := factorOf(c, section, z.End)
		inside := section >= z.Sections.From && section < z.Sections.To
		if inside && threshold.Cmp(factor.Mul(factor, big.NewRat(int64(z.Least), 1))) > 0 {
			return false
		}
		if !inside && threshold.Cmp(factor.Mul(factor, big.NewRat(int64(z.Most), 1))) <= 0 {
			return false
		}
	}
	return n >= 1
}

// randomZone returns a zone of a cable, which often has thresholds.
func randomZone(r *rand.Rand, c cable.Cable) cable.Zone {
	from := r.Intn(len(c.Sections))
	z := cable.Zone{Sections: api.Span{From: from, To: between(r, from+1, len(c.Sections))}, Least: between(r, 1, 20), Most: between(r, 1, 20), End: bothEnds[r.Intn(2)]}
	if r.Intn(2) == 0 {
		z.Least = between(r, 1, 1024)
	}
	return z
}

// P6.3: thresholds are all those of the definition: if there is one, then the
// greatest integer that is not above what the zone permits is one.
func TestThresholdsOfMany(t *testing.T) {
	r := rand.New(rand.NewSource(632))
	seen := map[api.Errno]int{}
	for range 3000 {
		c := randomCable(r)
		z := randomZone(r, c)
		what := fmt.Sprint(z, " of ", c)
		x, e := cable.Thresholds(c, z)
		seen[e]++
		if e == api.OK {
			is(t, what+": low", isThreshold(c, z, x.Low) && !isThreshold(c, z, x.Low-1), true)
			is(t, what+": high", isThreshold(c, z, x.High) && !isThreshold(c, z, x.High+1), true)
			is(t, what+": the order", x.Low <= x.High, true)
			continue
		}
		is(t, what, e, api.ErrInfeasible)
		for section := z.Sections.From; section < z.Sections.To; section++ {
			greatest := factorOf(c, section, z.End)
			greatest.Mul(greatest, big.NewRat(int64(z.Least)*unit, 1))
			is(t, what+": a threshold", isThreshold(c, z, int(greatest.Num().Int64())), false)
		}
	}
	if len(seen) != 2 || seen[api.OK] < 500 || seen[api.ErrInfeasible] < 500 {
		t.Errorf("the errors are %v", seen)
	}
}

// noTrips fails a test if an end trips, or there is another error.
func noTrips(t *testing.T, what string, l []cable.Arrival, z cable.Zone, threshold int, want api.Errno) {
	t.Helper()
	trips, e := cable.Trips(l, z, threshold)
	is(t, what, trips, false)
	is(t, what, e, want)
}

// P6.3: arrivals are asked for before a zone, and this before a threshold.
func TestNoTrips(t *testing.T) {
	eachBadArrivals(func(what string, l []cable.Arrival, e api.Errno) {
		noTrips(t, what, l, zone, 1, e)
		noTrips(t, what, l, cable.Zone{}, 0, e)
	})
	eachBadZone(6, func(what string, z cable.Zone, e api.Errno) {
		noTrips(t, what, heard(), z, 1, e)
		noTrips(t, what, heard(), z, 0, e)
		noTrips(t, what, nil, z, 1, e)
	})
	for _, n := range beyond(1, 1<<40) {
		noTrips(t, fmt.Sprint("the threshold ", n), heard(), zone, n, api.ErrRange)
		noTrips(t, fmt.Sprint("the threshold ", n), nil, zone, n, api.ErrRange)
	}
}

// P6.3: the first arrival at the end of the zone alone decides.
func TestTrips(t *testing.T) {
	b := zone
	b.End = "B"
	last := cable.Zone{Sections: api.Span{From: 5, To: 6}, Least: 1024, Most: 1024, End: "B"}
	low := []cable.Arrival{{Tick: 1, End: "B", Height: -5}, {Tick: 2, End: "A"}, {Tick: 3, End: "A", Height: 9}, {Tick: 3, End: "B", Height: 9}}
	great := []cable.Arrival{{Tick: 1, End: "A", Height: 1 << 40}, {Tick: 1, End: "B", Height: -1 << 44}}
	for _, x := range []struct {
		l         []cable.Arrival
		z         cable.Zone
		threshold int
		want      bool
	}{
		{heard(), zone, 16 * unit, true}, {heard(), zone, 16*unit + 1, false}, {heard(), zone, 1, true}, {heard(), b, 20 * unit, true}, {heard(), b, 20*unit + 1, false}, {heard(), last, 20 * unit, true}, {heard(), last, 21 * unit, false},
		{low, zone, 1, false}, {low, b, 5, true}, {low, b, 6, false}, {nil, zone, 1, false}, {low[:1], zone, 1, false}, {low[1:2], b, 1, false}, {great, zone, 1 << 40, true}, {great, b, 1 << 40, true}, {great[1:], zone, 1, false},
		{manyArrivals(2048), b, 1, true}, {manyArrivals(2048), zone, 1, false},
	} {
		what := fmt.Sprint(x.z, " by ", x.threshold, ": ", x.l)
		trips, e := cable.Trips(x.l, x.z, x.threshold)
		is(t, what, trips, x.want)
		is(t, what, e, api.OK)
	}
}
