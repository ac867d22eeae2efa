package harmonic

import (
	"bipole/api"
	"bipole/check"
)

// fewestCorners is the number of the corners that a polygon has at least.
const fewestCorners = 3

// point is a point of the plane of admittances: a complex integer, divided by an
// integer above 0.
type point struct {
	above api.Gauss
	below int
}

// CheckPolygon returns the first error of a polygon, or OK.
func CheckPolygon(l []api.Gauss) api.Errno {
	if len(l) < fewestCorners {
		return api.ErrShort
	}
	if e := check.List(l, MaxCorners, checkAdmittance); e != api.OK {
		return e
	}
	if !isConvex(l) {
		return api.ErrOrder
	}
	return api.OK
}

func checkAdmittance(p api.Gauss) api.Errno {
	return check.First(check.Range(p.Re, -MaxAdmittance, MaxAdmittance), check.Range(p.Im, -MaxAdmittance, MaxAdmittance))
}

// isConvex reports whether corners are those of a polygon. A star turns to the
// left at each of its corners, too, but has others to the right of its edges.
func isConvex(l []api.Gauss) bool {
	for k, corner := range l {
		afterEdge := l[(k+2)%len(l)]
		_, found := rightOf(l, point{corner, 1})
		if found || side(l, k, point{afterEdge, 1}) <= 0 {
			return false
		}
	}
	return true
}

// side returns an integer above 0 for a point to the left of an edge, 0 for one
// on it, and an integer below 0 for one to the right. It has at most 61 bits: no
// point is divided by more than the power 3 of 7200, as susceptances are.
func side(l []api.Gauss, k int, p point) int {
	from, to := l[k], l[(k+1)%len(l)]
	edge := minus(to, from)
	way := minus(p.above, api.Gauss{Re: from.Re * p.below, Im: from.Im * p.below})
	return edge.Re*way.Im - edge.Im*way.Re
}

func minus(a, b api.Gauss) api.Gauss {
	return api.Gauss{Re: a.Re - b.Re, Im: a.Im - b.Im}
}

// rightOf returns the first edge to the right of which a point is, and whether
// there is one.
func rightOf(l []api.Gauss, p point) (int, bool) {
	for k := range l {
		if side(l, k, p) < 0 {
			return k, true
		}
	}
	return 0, false
}

// Inside reports whether a point lies in a polygon.
func Inside(l []api.Gauss, p api.Gauss) (bool, api.Errno) {
	if e := check.First(CheckPolygon(l), checkAdmittance(p)); e != api.OK {
		return false, e
	}
	_, found := rightOf(l, point{p, 1})
	return !found, api.OK
}

// Extreme returns the index of the extreme corner of a polygon in a direction.
func Extreme(l []api.Gauss, d api.Gauss) (int, api.Errno) {
	if e := check.First(CheckPolygon(l), checkDirection(d)); e != api.OK {
		return 0, e
	}
	extreme := 0
	for k := range l {
		if along(l[k], d) > along(l[extreme], d) {
			extreme = k
		}
	}
	return extreme, api.OK
}

func checkDirection(d api.Gauss) api.Errno {
	if e := checkAdmittance(d); e != api.OK {
		return e
	}
	if d == (api.Gauss{}) {
		return api.ErrZero
	}
	return api.OK
}

func along(p, d api.Gauss) int {
	return p.Re*d.Re + p.Im*d.Im
}
