package cable

import (
	"bipole/api"
	"bipole/check"
	"bipole/whole"
)

// Opening returns the tick at which a breaker opens.
func Opening(l []Arrival, end string, from, limit, window int) (int, api.Errno) {
	e := check.First(
		checkArrivals(l),
		checkEnd(end),
		check.Range(from, 0, api.MaxNumber),
		checkThreshold(limit),
		checkWindow(window))
	if e != api.OK {
		return 0, e
	}
	return opening(l, end, from, limit, window)
}

// opening looks for the tick at which a breaker opens among those of a window.
func opening(l []Arrival, end string, from, limit, window int) (int, api.Errno) {
	opened, e := 0, api.ErrNone
search:
	for tick, height := range sums(l, end, from, window) {
		if whole.Absolute(height) < limit {
			opened, e = tick, api.OK
			break search
		}
	}
	return opened, e
}

// checkPlan returns the error of a plan, or OK.
func checkPlan(p Plan) api.Errno {
	return check.First(
		check.Each(p.Thresholds[:], checkThreshold),
		check.Range(p.Wait, 0, api.MaxTime),
		checkThreshold(p.Limit),
		checkWindow(p.Window))
}

// Cleared returns the ticks at which both breakers open.
func Cleared(c Cable, f Fault, p Plan) ([2]int, api.Errno) {
	if e := check.First(CheckFault(c, f), checkPlan(p)); e != api.OK {
		return [2]int{}, e
	}
	l := c.arrivals(f, p.Window)
	for i, end := range ends {
		if !trips(l, end, p.Thresholds[i]) {
			return [2]int{}, api.ErrTrip
		}
	}
	return opened(l, p)
}

// opened returns the ticks at which the breakers of both ends, which have
// arrivals, open by a plan.
func opened(l []Arrival, p Plan) ([2]int, api.Errno) {
	var ticks [2]int
	for i, end := range ends {
		a, _ := first(l, end)
		tick, e := opening(l, end, a.Tick+p.Wait, p.Limit, p.Window)
		if e != api.OK {
			return [2]int{}, api.ErrOpen
		}
		ticks[i] = tick
	}
	return ticks, api.OK
}
