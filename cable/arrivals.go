package cable

import (
	"cmp"
	"iter"
	"slices"

	"bipole/api"
	"bipole/check"
	"bipole/list"
	"bipole/phasor"
	"bipole/whole"
)

// The ends of a cable.
const (
	endA = "A"
	endB = "B"
)

// sixteenth is the height of a sixteenth of a sample's 1.
const sixteenth = Unit / 16

// ends is both ends, in their order.
var ends = [2]string{endA, endB}

// checkEnd returns ErrKind for an end that is none.
func checkEnd(end string) api.Errno {
	if end != endA && end != endB {
		return api.ErrKind
	}
	return api.OK
}

// checkArrivals returns the error of arrivals, or OK.
func checkArrivals(l []Arrival) api.Errno {
	return check.Successive(l, MaxArrivals, checkArrival)
}

func checkArrival(before []Arrival, a Arrival) api.Errno {
	return check.First(
		check.Range(a.Tick, 0, api.MaxNumber),
		checkEnd(a.End),
		check.Range(a.Height, -MaxSum, MaxSum),
		check.Above(before, a, Arrival.compare))
}

// compare returns -1 for an arrival that stands before another one.
func (a Arrival) compare(other Arrival) int {
	return cmp.Or(cmp.Compare(a.Tick, other.Tick), cmp.Compare(a.End, other.End))
}

// Arrivals returns the arrivals at both ends.
func Arrivals(c Cable, f Fault, window int) ([]Arrival, api.Errno) {
	if e := check.First(CheckFault(c, f), checkWindow(window)); e != api.OK {
		return nil, e
	}
	return c.arrivals(f, window), api.OK
}

// arrivals returns the arrivals of a fault in a window.
func (c Cable) arrivals(f Fault, window int) []Arrival {
	var l []Arrival
	steps := slices.DeleteFunc(c.steps(f, window), c.isAtJoint)
	for i, s := range steps {
		if i == 0 || s.moment() != steps[i-1].moment() {
			l = append(l, Arrival{Tick: s.Tick, End: ends[min(s.Boundary, 1)]})
		}
		l[len(l)-1].Height += s.Height
	}
	return l
}

// isAtJoint reports whether no end hears a step.
func (c Cable) isAtJoint(s Step) bool {
	return s.Boundary > 0 && s.Boundary < len(c.Sections)
}

// moment returns the tick and the boundary of a step alone.
func (s Step) moment() Step {
	return Step{Tick: s.Tick, Boundary: s.Boundary}
}

// First returns the first arrival at an end.
func First(l []Arrival, end string) (Arrival, api.Errno) {
	if e := check.First(checkArrivals(l), checkEnd(end)); e != api.OK {
		return Arrival{}, e
	}
	return first(l, end)
}

// first returns the first of well-formed arrivals at an end.
func first(l []Arrival, end string) (Arrival, api.Errno) {
	at := slices.IndexFunc(l, func(a Arrival) bool { return a.End == end })
	if at < 0 {
		return Arrival{}, api.ErrNone
	}
	return l[at], api.OK
}

// sums visits the ticks from one on, up to the last one of a window, with the
// sums at an end up to them.
func sums(l []Arrival, end string, from, window int) iter.Seq2[int, int] {
	return func(yield func(tick, height int) bool) {
		for ticks := range window + 1 {
			tick := from + ticks
			if !yield(tick, sum(l, end, tick)) {
				return
			}
		}
	}
}

// sum returns the sum at an end up to a tick.
func sum(l []Arrival, end string, tick int) int {
	heights := 0
	for _, a := range l {
		if a.End == end && a.Tick <= tick {
			heights += a.Height
		}
	}
	return heights
}

// Record returns the record of an end.
func Record(c Cable, f Fault, end string, window int) ([]float32, api.Errno) {
	if e := check.First(CheckFault(c, f), checkEnd(end), checkWindow(window)); e != api.OK {
		return nil, e
	}
	var heights []int
	for _, height := range sums(c.arrivals(f, window), end, f.Tick, window) {
		heights = append(heights, height)
	}
	samples := list.Mapped(heights, sample)
	if check.Each(samples, phasor.CheckSample) != api.OK {
		return nil, api.ErrLarge
	}
	return samples, api.OK
}

// sample returns a height as a number that is a multiple of 1/16. From the middle
// it is rounded to the greater one, also below 0.
func sample(height int) float32 {
	up := height + sixteenth/2
	return float32(whole.RoundedDown(up, sixteenth)) / 16
}
