package harmonic

import (
	"cmp"
	"slices"

	"bipole/api"
	"bipole/check"
	"bipole/whole"
)

// checkMeeting returns the first error of a filter, a polygon and an order, or
// OK.
func checkMeeting(f Filter, l []api.Gauss, h int) api.Errno {
	return check.First(CheckFilter(f), CheckPolygon(l), checkOrder(h))
}

// Meets reports whether a filter meets a polygon at an order.
func Meets(f Filter, l []api.Gauss, h int) (bool, api.Errno) {
	if e := checkMeeting(f, l, h); e != api.OK {
		return false, e
	}
	return meets(f, l, h), api.OK
}

func meets(f Filter, l []api.Gauss, h int) bool {
	_, found := separating(f, l, h)
	return !found
}

// separating returns the first edge that separates a filter and a polygon, and
// whether there is one.
func separating(f Filter, l []api.Gauss, h int) (int, bool) {
	if isTuned(f, h) {
		return 0, true
	}
	return rightOf(l, opposite(f, h))
}

// opposite returns the admittance of a grid that is in resonance with a filter,
// which is not tuned to the order.
func opposite(f Filter, h int) point {
	s := susceptance(f, h)
	return point{api.Gauss{Im: -s.Num}, s.Den}
}

// Edge returns the first edge that separates a filter and a polygon at an order.
func Edge(f Filter, l []api.Gauss, h int) (int, api.Errno) {
	if e := checkMeeting(f, l, h); e != api.OK {
		return 0, e
	}
	edge, found := separating(f, l, h)
	if !found {
		return 0, api.ErrNone
	}
	return edge, api.OK
}

// CheckEdge returns OK for an edge that separates a filter and a polygon at an order.
func CheckEdge(f Filter, l []api.Gauss, h, edge int) api.Errno {
	if e := check.First(checkMeeting(f, l, h), check.Index(edge, len(l))); e != api.OK {
		return e
	}
	if isTuned(f, h) || side(l, edge, opposite(f, h)) < 0 {
		return api.OK
	}
	return api.ErrProof
}

// tap is what is added to the L of a branch.
type tap int

// compare returns -1 if a tap is asked for before another one: if it is less in
// absolute value, or as great, and less.
func (t tap) compare(other tap) int {
	return cmp.Or(cmp.Compare(whole.Absolute(int(t)), whole.Absolute(int(other))), cmp.Compare(t, other))
}

// taps returns all taps in the order in which they are asked for.
func taps() []tap {
	var l []tap
	for i := range 2*MaxTap + 1 {
		l = append(l, tap(i-MaxTap))
	}
	slices.SortFunc(l, tap.compare)
	return l
}

// Avoid returns the tap that avoids a polygon at some orders.
func Avoid(f Filter, branch int, l []api.Gauss, orders []int) (int, api.Errno) {
	if e := check.First(CheckFilter(f), check.Index(branch, len(f.Branches)), CheckPolygon(l), checkOrders(orders)); e != api.OK {
		return 0, e
	}
search:
	for _, t := range taps() {
		changed, e := tapped(f, branch, int(t))
		if e != api.OK {
			continue
		}
		for _, h := range orders {
			if meets(changed, l, h) {
				continue search
			}
		}
		return int(t), api.OK
	}
	return 0, api.ErrInfeasible
}

// checkOrders returns the error of orders that are not ascending, or OK.
func checkOrders(orders []int) api.Errno {
	if len(orders) == 0 {
		return api.ErrEmpty
	}
	return check.Successive(orders, MaxOrder, func(before []int, h int) api.Errno {
		return check.First(checkOrder(h), check.Above(before, h, cmp.Compare))
	})
}
