package start

import (
	"cmp"
	"iter"
	"slices"

	"bipole/api"
	"bipole/check"
	"bipole/whole"
)

// maxSets is how many sets a plant has at most.
const maxSets = 1 << MaxParts

// route is an order, with the set of its parts and its minutes.
type route struct {
	order   []int
	set     int
	minutes int
}

// with returns the order that goes on with a part.
func (r route) with(x energized) route {
	return route{
		order:   append(slices.Clone(r.order), x.index),
		set:     r.set | whole.Bit(x.index),
		minutes: r.minutes + x.Minutes,
	}
}

// compare returns -1 for an order that is quicker than another one, or as quick and
// less at the first place where they differ.
func (r route) compare(other route) int {
	return cmp.Or(cmp.Compare(r.minutes, other.minutes), slices.Compare(r.order, other.order))
}

// CheckOrder returns the minutes of an order, or the index of the first part that cannot be energized.
func CheckOrder(p Plant, order []int) (int, int, api.Errno) {
	s, e := stationOf(p)
	if e != api.OK {
		return 0, 0, e
	}
	var r route
	for i, part := range order {
		if e := s.checkReady(part, r.set); e != api.OK {
			return 0, i, e
		}
		r = r.with(s.parts[part])
	}
	return r.minutes, 0, api.OK
}

// reached visits the sets that can be reached, ascending, each by the first one of
// its orders.
func (s station) reached() iter.Seq[route] {
	return func(yield func(route) bool) {
		first := map[int]route{0: {}}
		// A further part makes a set greater, so that all orders of a set are
		// compared before it is visited.
		for set := range whole.Bit(len(s.parts)) {
			r, known := first[set]
			if !known {
				continue
			}
			if !yield(r) {
				return
			}
			for _, part := range s.ready(set) {
				next := r.with(s.parts[part])
				if other, known := first[next.set]; !known || next.compare(other) < 0 {
					first[next.set] = next
				}
			}
		}
	}
}

// Order returns the quickest order that energizes a part, and its minutes.
func Order(p Plant, part int) ([]int, int, api.Errno) {
	s, e := stationWith(p, part)
	if e != api.OK {
		return nil, 0, e
	}
	var routes []route
	for r := range s.reached() {
		if s.checkReady(part, r.set) == api.OK {
			routes = append(routes, r.with(s.parts[part]))
		}
	}
	if len(routes) == 0 {
		return nil, 0, api.ErrInfeasible
	}
	quickest := slices.MinFunc(routes, route.compare)
	return quickest.order, quickest.minutes, api.OK
}

// Reachable returns the sets that can be reached.
func Reachable(p Plant) ([]int, api.Errno) {
	s, e := stationOf(p)
	if e != api.OK {
		return nil, e
	}
	var sets []int
	for r := range s.reached() {
		sets = append(sets, r.set)
	}
	return sets, api.OK
}

// CheckClosed returns OK for sets that prove that a part cannot be energized.
func CheckClosed(p Plant, part int, sets []int) api.Errno {
	s, e := stationWith(p, part)
	if e := check.First(e, check.Successive(sets, maxSets, s.checkNextSet)); e != api.OK {
		return e
	}
	return check.That(slices.Contains(sets, 0) && s.isClosed(sets, part), api.ErrProof)
}

// checkNextSet returns the error of a set that stands behind others.
func (s station) checkNextSet(before []int, set int) api.Errno {
	return check.First(
		s.checkSet(set),
		check.Above(before, set, cmp.Compare))
}

// isClosed reports whether no ready part leads from sets to others, nor is a part.
func (s station) isClosed(sets []int, part int) bool {
	for _, set := range sets {
		for _, next := range s.ready(set) {
			if next == part || !slices.Contains(sets, set|whole.Bit(next)) {
				return false
			}
		}
	}
	return true
}
