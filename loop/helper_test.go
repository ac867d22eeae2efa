package loop_test

import (
	"math"
	"math/rand"
	"slices"
	"testing"

	"bipole/api"
	"bipole/loop"
)

// is fails a test if a result is not the expected one.
func is[T comparable](t *testing.T, what string, got, want T) {
	t.Helper()
	if got != want {
		t.Errorf("%s: got %v, want %v", what, got, want)
	}
}

// isList fails a test if a list is not the expected one; nil and empty lists are equal.
func isList[L ~[]int](t *testing.T, what string, got, want L) {
	t.Helper()
	if !slices.Equal(got, want) {
		t.Errorf("%s: got %v, want %v", what, got, want)
	}
}

// isTable fails a test if a table is not the expected one.
func isTable(t *testing.T, what string, got, want []loop.Row) {
	t.Helper()
	if !slices.EqualFunc(got, want, slices.Equal[loop.Row]) {
		t.Errorf("%s: got %v, want %v", what, got, want)
	}
}

// isLoop fails a test if a loop is not the expected one.
func isLoop(t *testing.T, what string, got, want loop.Loop) {
	t.Helper()
	isList(t, what+": PlantNum", got.PlantNum, want.PlantNum)
	isList(t, what+": PlantDen", got.PlantDen, want.PlantDen)
	isList(t, what+": ControllerNum", got.ControllerNum, want.ControllerNum)
	isList(t, what+": ControllerDen", got.ControllerDen, want.ControllerDen)
}

// of returns the loop with four polynomials.
func of(plantNum, plantDen, controllerNum, controllerDen loop.Poly) loop.Loop {
	return loop.Loop{PlantNum: plantNum, PlantDen: plantDen, ControllerNum: controllerNum, ControllerDen: controllerDen}
}

// shown returns the loop L of the chapter's examples.
func shown() loop.Loop {
	return of(loop.Poly{1}, loop.Poly{-1, 2}, loop.Poly{1}, loop.Poly{1})
}

// with returns the loop L of the examples with a change.
func with(change func(l *loop.Loop)) loop.Loop {
	l := shown()
	change(&l)
	return l
}

// badPoly is coefficients that are no polynomial.
type badPoly struct {
	p loop.Poly
	e api.Errno
}

// badPolys returns polynomials with each error, most of them with later errors, too.
func badPolys() []badPoly {
	l := []badPoly{
		{nil, api.ErrEmpty}, {loop.Poly{}, api.ErrEmpty},
		{make(loop.Poly, 6), api.ErrMany}, {loop.Poly{101, 0, 0, 0, 0, 1}, api.ErrMany}, {loop.Poly{1, 1, 1, 1, 1, 1}, api.ErrMany}, {make(loop.Poly, 1000), api.ErrMany},
		{loop.Poly{0}, api.ErrZero}, {loop.Poly{1, 0}, api.ErrZero}, {make(loop.Poly, 5), api.ErrZero}, {loop.Poly{100, -100, 100, -100, 0}, api.ErrZero},
	}
	for _, n := range beyond(-100, 100) {
		l = append(l, badPoly{loop.Poly{n}, api.ErrRange}, badPoly{loop.Poly{n, 0}, api.ErrRange}, badPoly{loop.Poly{1, n, 1}, api.ErrRange}, badPoly{loop.Poly{0, 0, 0, 0, n}, api.ErrRange})
	}
	return l
}

// beyond returns integers that are not from low to high.
func beyond(low, high int) []int {
	return []int{low - 1, high + 1, -1 << 40, 1 << 40, math.MinInt, math.MaxInt}
}

// between returns a random integer from low to high.
func between(r *rand.Rand, low, high int) int {
	return low + r.Intn(high-low+1)
}

// randomPoly returns a polynomial of a degree whose coefficients are at most most
// in absolute value; many are 0.
func randomPoly(r *rand.Rand, degree, most int) loop.Poly {
	p := make(loop.Poly, degree+1)
	for k := range p {
		if r.Intn(4) > 0 {
			p[k] = between(r, -most, most)
		}
	}
	for p[degree] == 0 {
		p[degree] = between(r, -most, most)
	}
	return p
}

// randomLoop returns a loop; a few of them have coefficients that are too large.
func randomLoop(r *rand.Rand) loop.Loop {
	plant, controller := between(r, 1, 2), between(r, 0, 2)
	return of(randomPoly(r, r.Intn(plant), 5), randomPoly(r, plant, 9), randomPoly(r, r.Intn(controller+1), 5), randomPoly(r, controller, 6))
}

// plain returns the product of two polynomials, of any size.
func plain(a, b loop.Poly) loop.Poly {
	c := make(loop.Poly, len(a)+len(b)-1)
	for k := range c {
		for i := 0; i <= k; i++ {
			if i < len(a) && k-i < len(b) {
				c[k] += a[i] * b[k-i]
			}
		}
	}
	return c
}

// closedOf returns the coefficients of a closed loop, of any size.
func closedOf(l loop.Loop) loop.Poly {
	c := plain(l.PlantDen, l.ControllerDen)
	for k, x := range plain(l.PlantNum, l.ControllerNum) {
		c[k] += x
	}
	return c
}

// isLarge reports whether a coefficient is not in its range.
func isLarge(p loop.Poly) bool {
	return slices.ContainsFunc(p, func(a int) bool { return a < -100 || a > 100 })
}

// at returns the value of a polynomial, power by power.
func at(p loop.Poly, z complex128) complex128 {
	sum, power := complex128(0), complex128(1)
	for _, a := range p {
		sum += complex(float64(a), 0) * power
		power *= z
	}
	return sum
}

// greatestRoot returns the absolute value of the greatest root of a polynomial,
// as nearly as floats find it: all roots are improved together.
func greatestRoot(p loop.Poly) float64 {
	n := len(p) - 1
	roots := make([]complex128, n)
	for i := range roots {
		angle := 0.4 + 2*math.Pi*float64(i)/float64(n)
		roots[i] = complex(math.Cos(angle), math.Sin(angle))
	}
	for range 500 {
		for i, z := range roots {
			below := complex(float64(p[n]), 0)
			for k, other := range roots {
				if k != i {
					below *= z - other
				}
			}
			roots[i] = z - at(p, z)/below
		}
	}
	most := 0.0
	for _, z := range roots {
		most = max(most, math.Hypot(real(z), imag(z)))
	}
	return most
}
