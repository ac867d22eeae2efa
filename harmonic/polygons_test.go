package harmonic_test

import (
	"fmt"
	"math/rand"
	"slices"
	"testing"

	"bipole/api"
	"bipole/harmonic"
)

// P4.5
func TestCheckPolygon(t *testing.T) {
	for _, l := range [][]api.Gauss{
		box(), all(), {g(0, 0), g(1, 0), g(0, 1)}, {g(0, 1), g(0, 0), g(1, 0)}, {g(-1000, 1000), g(1000, 999), g(1000, 1000)},
		{g(2, 0), g(4, 0), g(6, 2), g(6, 4), g(4, 6), g(2, 6), g(0, 4), g(0, 2)},
	} {
		is(t, fmt.Sprint(l), harmonic.CheckPolygon(l), api.OK)
		is(t, fmt.Sprint(l, " twice"), harmonic.CheckPolygon(append(slices.Clone(l), l[0])), map[bool]api.Errno{true: api.ErrMany, false: api.ErrOrder}[len(l) == 8])
		slices.Reverse(l)
		is(t, fmt.Sprint(l), harmonic.CheckPolygon(l), api.ErrOrder)
	}
	for _, x := range badPolygons() {
		is(t, fmt.Sprint(x.l), harmonic.CheckPolygon(x.l), x.e)
	}
}

// isHull reports whether corners are all corners of the least convex set that
// holds them, in their order, as often around as there is place for.
func isHull(l []api.Gauss) bool {
	corners := hull(l)
	if len(corners) < 3 || len(l)%len(corners) != 0 {
		return false
	}
	first := slices.Index(corners, l[0])
	for k, p := range l {
		if first < 0 || p != corners[(first+k)%len(corners)] {
			return false
		}
	}
	return true
}

// P4.5: polygons are the corners of convex sets in their order.
func TestCheckPolygonOfMany(t *testing.T) {
	r := rand.New(rand.NewSource(451))
	seen := map[bool]int{}
	for n := range 30000 {
		size := []int{1, 2, 4, 20, 1000}[r.Intn(5)]
		l := randomPolygon(r, max(size, 2))
		k := r.Intn(len(l))
		switch n % 8 {
		case 0:
			l[k] = g(between(r, -size, size), between(r, -size, size))
		case 1:
			other := r.Intn(len(l))
			l[k], l[other] = l[other], l[k]
		case 2:
			l = slices.Insert(l, k, g(between(r, -size, size), between(r, -size, size)))
		case 3:
			l = slices.Repeat(l, 2)
		case 4:
			l = nil
			for range between(r, 3, 6) {
				l = append(l, g(between(r, -size, size), between(r, -size, size)))
			}
		case 5:
			l = slices.Delete(l, k, k+1)
		}
		want := api.ErrOrder
		switch {
		case len(l) < 3:
			want = api.ErrShort
		case len(l) > 8:
			want = api.ErrMany
		case isHull(l):
			want = api.OK
		}
		seen[want == api.OK]++
		is(t, fmt.Sprint(l), harmonic.CheckPolygon(l), want)
	}
	if seen[true] < 5000 || seen[false] < 5000 {
		t.Errorf("corners are polygons, or not: %v", seen)
	}
}

// P4.5: polygons are asked for before what follows them.
func TestErrorsOfPolygons(t *testing.T) {
	for _, x := range badPolygons() {
		what := fmt.Sprint(x.l)
		inside, e := harmonic.Inside(x.l, g(0, 1001))
		is(t, "inside "+what, inside, false)
		is(t, "inside "+what, e, x.e)
		for _, d := range []api.Gauss{{}, g(1001, 0), g(1, 0)} {
			k, e := harmonic.Extreme(x.l, d)
			is(t, "extreme of "+what, k, 0)
			is(t, "extreme of "+what, e, x.e)
		}
		for _, h := range []int{0, 3, 5, 13} {
			meets, e := harmonic.Meets(pair(), x.l, h)
			is(t, "meets "+what, meets, false)
			is(t, "meets "+what, e, x.e)
			edge, e := harmonic.Edge(pair(), x.l, h)
			is(t, "the edge of "+what, edge, 0)
			is(t, "the edge of "+what, e, x.e)
			is(t, "the proof of "+what, harmonic.CheckEdge(pair(), x.l, h, -1), x.e)
			tap, e := harmonic.Avoid(pair(), 0, x.l, []int{h, h})
			is(t, "the tap for "+what, tap, 0)
			is(t, "the tap for "+what, e, x.e)
			_, e = harmonic.Avoid(pair(), 2, x.l, []int{h, h})
			is(t, "the branch before "+what, e, api.ErrUnknown)
		}
	}
}

// P4.5
func TestInside(t *testing.T) {
	for _, x := range []struct {
		p      api.Gauss
		inside bool
	}{
		{g(0, 0), true}, {g(0, -1), true}, {g(2, -1), true}, {g(2, 0), true}, {g(1, 0), true}, {g(1, -1), true},
		{g(-1, 0), false}, {g(3, 0), false}, {g(1, 1), false}, {g(1, -2), false}, {g(3, -1), false}, {g(0, 1), false}, {g(1000, -1000), false}, {g(-1000, 1000), false},
	} {
		inside, e := harmonic.Inside(box(), x.p)
		is(t, fmt.Sprint(x.p), inside, x.inside)
		is(t, fmt.Sprint(x.p), e, api.OK)
	}
	for _, p := range all() {
		inside, e := harmonic.Inside(all(), p)
		is(t, fmt.Sprint(p), inside, true)
		is(t, fmt.Sprint(p), e, api.OK)
	}
	for _, n := range beyond(-1000, 1000) {
		for _, p := range []api.Gauss{g(n, 0), g(0, n), g(n, n)} {
			inside, e := harmonic.Inside(box(), p)
			is(t, fmt.Sprint(p), inside, false)
			is(t, fmt.Sprint(p), e, api.ErrRange)
		}
	}
}

// P4.5: the triangles of a point and each edge are as large as the polygon
// exactly if the point lies in it.
func TestInsideOfMany(t *testing.T) {
	r := rand.New(rand.NewSource(452))
	seen := map[bool]int{}
	for range 10000 {
		size := []int{3, 10, 1000}[r.Intn(3)]
		l, p := randomPolygon(r, size), g(between(r, -size, size), between(r, -size, size))
		area, around := 0, 0
		for k, corner := range l {
			next := l[(k+1)%len(l)]
			area += cross(g(0, 0), corner, next)
			around += max(cross(p, corner, next), -cross(p, corner, next))
		}
		inside, e := harmonic.Inside(l, p)
		is(t, fmt.Sprint(p, " in ", l), inside, area == around)
		is(t, fmt.Sprint(p, " in ", l), e, api.OK)
		seen[inside]++
	}
	if seen[true] < 1000 || seen[false] < 1000 {
		t.Errorf("points lie in polygons, or not: %v", seen)
	}
}

// P4.5
func TestExtreme(t *testing.T) {
	for _, x := range []struct {
		d api.Gauss
		k int
	}{
		{g(1, 1), 2}, {g(1, 0), 1}, {g(0, 1), 2}, {g(-1, 0), 0}, {g(0, -1), 0}, {g(-1, 1), 3}, {g(1, -1), 1}, {g(-1, -1), 0}, {g(1000, 1000), 2}, {g(-1000, 1), 3}, {g(-1, -1000), 0},
	} {
		k, e := harmonic.Extreme(box(), x.d)
		is(t, fmt.Sprint(x.d), k, x.k)
		is(t, fmt.Sprint(x.d), e, api.OK)
	}
	for n, want := range map[int]api.Errno{1001: api.ErrRange, -1001: api.ErrRange, 0: api.ErrZero, 1 << 40: api.ErrRange, -1 << 63: api.ErrRange, 1<<63 - 1: api.ErrRange} {
		for _, d := range []api.Gauss{g(n, 0), g(0, n), g(n, n)} {
			k, e := harmonic.Extreme(box(), d)
			is(t, fmt.Sprint(d), k, 0)
			is(t, fmt.Sprint(d), e, want)
		}
	}
	r := rand.New(rand.NewSource(453))
	for range 5000 {
		l, d := randomPolygon(r, 20), g(between(r, -5, 5), between(r, -5, 5))
		if d == g(0, 0) {
			continue
		}
		var sums []int
		for _, p := range l {
			sums = append(sums, p.Re*d.Re+p.Im*d.Im)
		}
		k, e := harmonic.Extreme(l, d)
		is(t, fmt.Sprint(d, " of ", l), k, slices.Index(sums, slices.Max(sums)))
		is(t, fmt.Sprint(d, " of ", l), e, api.OK)
	}
}

// P4.5: polygons are not changed.
func TestMemoryOfPolygons(t *testing.T) {
	l, orders := box(), []int{4, 5, 7}
	harmonic.CheckPolygon(l)
	harmonic.Inside(l, g(1, 0))
	harmonic.Extreme(l, g(1, 0))
	harmonic.Meets(pair(), l, 5)
	harmonic.Edge(pair(), l, 4)
	harmonic.CheckEdge(pair(), l, 4, 2)
	harmonic.Avoid(pair(), 0, l, orders)
	isList(t, "the polygon", l, box())
	isList(t, "the orders", orders, []int{4, 5, 7})
}
