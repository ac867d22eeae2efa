package loop_test

import (
	"fmt"
	"math/rand"
	"testing"

	"bipole/api"
	"bipole/loop"
)

// P3.1 to P3.4: the limits are those of the chapter.
func TestLimits(t *testing.T) {
	got := [...]int{loop.MaxDegree, loop.MaxCoefficient, loop.MaxPart, loop.MaxFactor, loop.MaxGrids, loop.MaxStrength, loop.MaxFirst, loop.MaxScaled, loop.MaxSteps, loop.MaxRing}
	is(t, "the limits", got, [...]int{4, 100, 8, 4, 256, 20, 1000, 1073741824, 24, 64})
}

// P3.1
func TestCheckPoly(t *testing.T) {
	for _, p := range []loop.Poly{{1}, {-1}, {100}, {-100}, {0, 1}, {1, 0, 2}, {0, 0, 0, 0, 1}, {100, -100, 100, -100, 100}} {
		is(t, fmt.Sprint(p), loop.CheckPoly(p), api.OK)
		n, e := loop.Degree(p)
		is(t, fmt.Sprint("degree of ", p), n, len(p)-1)
		is(t, fmt.Sprint("degree of ", p), e, api.OK)
	}
	for _, x := range badPolys() {
		is(t, fmt.Sprint(x.p), loop.CheckPoly(x.p), x.e)
	}
}

// P3.1, P3.2, P3.4: each function asks for the polynomial before all else.
func TestBadPolys(t *testing.T) {
	good := loop.Poly{1, 2}
	for _, x := range badPolys() {
		what := fmt.Sprint(x.p)
		n, e := loop.Degree(x.p)
		is(t, "degree of "+what, n, 0)
		is(t, "degree of "+what, e, x.e)
		v, e := loop.Value(x.p, api.Gauss{Re: 9})
		is(t, "value of "+what, v, api.Gauss{})
		is(t, "value of "+what, e, x.e)
		for _, pair := range [][2]loop.Poly{{x.p, good}, {good, x.p}, {x.p, x.p}} {
			sum, e := loop.Sum(pair[0], pair[1])
			isList(t, "sum of "+what, sum, nil)
			is(t, "sum of "+what, e, x.e)
			product, e := loop.Product(pair[0], pair[1])
			isList(t, "product of "+what, product, nil)
			is(t, "product of "+what, e, x.e)
		}
		table, e := loop.Table(x.p)
		isTable(t, "table of "+what, table, nil)
		is(t, "table of "+what, e, x.e)
		stable, e := loop.Stable(x.p)
		is(t, "stable "+what, stable, false)
		is(t, "stable "+what, e, x.e)
		is(t, "table of "+what, loop.CheckTable(x.p, nil), x.e)
		scaled, e := loop.Scaled(x.p, api.Ratio{Num: 5, Den: 1})
		isList(t, "scaled "+what, scaled, nil)
		is(t, "scaled "+what, e, x.e)
		within, e := loop.Within(x.p, api.Ratio{Num: 5, Den: 1})
		is(t, "within "+what, within, false)
		is(t, "within "+what, e, x.e)
		steps, e := loop.Stepped(x.p, []int{1001}, -1)
		isList(t, "steps of "+what, steps, nil)
		is(t, "steps of "+what, e, x.e)
	}
}

// P3.1: of two wrong polynomials the first one decides.
func TestTwoBadPolys(t *testing.T) {
	for _, x := range badPolys() {
		for _, y := range badPolys() {
			_, e1 := loop.Sum(x.p, y.p)
			_, e2 := loop.Product(x.p, y.p)
			is(t, fmt.Sprint(x.p, y.p), [2]api.Errno{e1, e2}, [2]api.Errno{x.e, x.e})
		}
	}
}

// P3.1
func TestValue(t *testing.T) {
	for _, x := range []struct {
		p    loop.Poly
		z, v api.Gauss
	}{
		{loop.Poly{1, 0, 2}, api.Gauss{Im: 1}, api.Gauss{Re: -1}},
		{loop.Poly{1, 0, 2}, api.Gauss{Re: 1, Im: 1}, api.Gauss{Re: 1, Im: 4}},
		{loop.Poly{-7}, api.Gauss{Re: 8, Im: -8}, api.Gauss{Re: -7}},
		{loop.Poly{3, 1}, api.Gauss{}, api.Gauss{Re: 3}},
		{loop.Poly{3, 1}, api.Gauss{Re: -8, Im: 5}, api.Gauss{Re: -5, Im: 5}},
		{loop.Poly{1, 2, 3, 4, 5}, api.Gauss{Re: 2}, api.Gauss{Re: 129}},
		{loop.Poly{0, 0, 0, 0, -100}, api.Gauss{Re: 8, Im: 8}, api.Gauss{Re: 1638400}},
	} {
		v, e := loop.Value(x.p, x.z)
		is(t, fmt.Sprint(x.p, x.z), v, x.v)
		is(t, fmt.Sprint(x.p, x.z), e, api.OK)
	}
	for _, n := range beyond(-8, 8) {
		for _, z := range []api.Gauss{{Re: n}, {Im: n}, {Re: 8, Im: n}, {Re: n, Im: -8}, {Re: n, Im: n}} {
			v, e := loop.Value(loop.Poly{1, 2}, z)
			is(t, fmt.Sprint(z), v, api.Gauss{})
			is(t, fmt.Sprint(z), e, api.ErrRange)
		}
	}
}

// P3.1: values are those of the powers, at all complex integers.
func TestValuesOfMany(t *testing.T) {
	r := rand.New(rand.NewSource(31))
	for re := -8; re <= 8; re++ {
		for im := -8; im <= 8; im++ {
			p := randomPoly(r, r.Intn(5), 100)
			v, e := loop.Value(p, api.Gauss{Re: re, Im: im})
			is(t, fmt.Sprint(p, re, im), complex(float64(v.Re), float64(v.Im)), at(p, complex(float64(re), float64(im))))
			is(t, fmt.Sprint(p, re, im), e, api.OK)
		}
	}
}

// P3.1
func TestSum(t *testing.T) {
	for _, x := range []struct {
		a, b, sum loop.Poly
		e         api.Errno
	}{
		{loop.Poly{1, 2, 3}, loop.Poly{1, 1, -3}, loop.Poly{2, 3}, api.OK},
		{loop.Poly{1}, loop.Poly{0, 0, 0, 0, 1}, loop.Poly{1, 0, 0, 0, 1}, api.OK},
		{loop.Poly{0, 0, 0, 0, 1}, loop.Poly{1}, loop.Poly{1, 0, 0, 0, 1}, api.OK},
		{loop.Poly{1, 0, 0, 0, 1}, loop.Poly{0, 0, 0, 0, -1}, loop.Poly{1}, api.OK},
		{loop.Poly{0, 0, 5, 1}, loop.Poly{0, 0, -5, 1}, loop.Poly{0, 0, 0, 2}, api.OK},
		{loop.Poly{60, 50}, loop.Poly{40, 50}, loop.Poly{100, 100}, api.OK},
		{loop.Poly{-60, 50}, loop.Poly{-40, -50}, loop.Poly{-100}, api.OK},
		{loop.Poly{1}, loop.Poly{-1}, nil, api.ErrZero},
		{loop.Poly{1, 2}, loop.Poly{-1, -2}, nil, api.ErrZero},
		{loop.Poly{0, 0, 7}, loop.Poly{0, 0, -7}, nil, api.ErrZero},
		{loop.Poly{61}, loop.Poly{40}, nil, api.ErrLarge},
		{loop.Poly{-61}, loop.Poly{-40}, nil, api.ErrLarge},
		{loop.Poly{100, 100}, loop.Poly{1, -100}, nil, api.ErrLarge},
		{loop.Poly{1, 2, 100}, loop.Poly{1, 2, 100}, nil, api.ErrLarge},
		{loop.Poly{1, -100, 1}, loop.Poly{1, -1}, nil, api.ErrLarge},
	} {
		sum, e := loop.Sum(x.a, x.b)
		isList(t, fmt.Sprint(x.a, " + ", x.b), sum, x.sum)
		is(t, fmt.Sprint(x.a, " + ", x.b), e, x.e)
	}
}

// P3.1
func TestProduct(t *testing.T) {
	for _, x := range []struct {
		a, b, product loop.Poly
		e             api.Errno
	}{
		{loop.Poly{1, 1}, loop.Poly{-1, 1}, loop.Poly{-1, 0, 1}, api.OK},
		{loop.Poly{2}, loop.Poly{1, 2, 3, 4, 5}, loop.Poly{2, 4, 6, 8, 10}, api.OK},
		{loop.Poly{1, 2, 3, 4, 5}, loop.Poly{-2}, loop.Poly{-2, -4, -6, -8, -10}, api.OK},
		{loop.Poly{1, 2, 3}, loop.Poly{4, 5, 6}, loop.Poly{4, 13, 28, 27, 18}, api.OK},
		{loop.Poly{0, 1}, loop.Poly{0, 0, 0, 1}, loop.Poly{0, 0, 0, 0, 1}, api.OK},
		{loop.Poly{10}, loop.Poly{10}, loop.Poly{100}, api.OK},
		{loop.Poly{10}, loop.Poly{-10}, loop.Poly{-100}, api.OK},
		{loop.Poly{20}, loop.Poly{6}, nil, api.ErrLarge},
		{loop.Poly{-100}, loop.Poly{1, 2}, nil, api.ErrLarge},
		{loop.Poly{11, 1}, loop.Poly{-10, 1}, nil, api.ErrLarge},
		{loop.Poly{1, 11, 1}, loop.Poly{1, 11, 1}, nil, api.ErrLarge},
		{loop.Poly{1, 11}, loop.Poly{1, 10}, nil, api.ErrLarge},
		{loop.Poly{1, 1}, loop.Poly{1, 0, 0, 0, 1}, nil, api.ErrMany},
		{loop.Poly{1, 0, 0, 1}, loop.Poly{1, 0, 1}, nil, api.ErrMany},
		{loop.Poly{100, 0, 0, 0, 100}, loop.Poly{100, 0, 0, 0, 100}, nil, api.ErrMany},
	} {
		product, e := loop.Product(x.a, x.b)
		isList(t, fmt.Sprint(x.a, " * ", x.b), product, x.product)
		is(t, fmt.Sprint(x.a, " * ", x.b), e, x.e)
	}
}
