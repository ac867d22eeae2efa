package phasor_test

import (
	"fmt"
	"math"
	"slices"
	"testing"

	"bipole/api"
	"bipole/phasor"
)

const most = api.MaxPart

// P1.2
func TestCheckEisen(t *testing.T) {
	for _, x := range []api.Eisen{{}, z(1, -1), z(most, most), z(-most, -most), z(most, -most), z(-most, most)} {
		same(t, fmt.Sprint(x), phasor.CheckEisen(x), api.OK)
	}
	for _, n := range beyond(most) {
		same(t, fmt.Sprint(n, " as A"), phasor.CheckEisen(z(n, 0)), api.ErrRange)
		same(t, fmt.Sprint(n, " as B"), phasor.CheckEisen(z(0, n)), api.ErrRange)
	}
}

// P1.2
func TestAdd(t *testing.T) {
	for _, x := range []struct {
		a, b, sum api.Eisen
		e         api.Errno
	}{
		{z(1, 2), z(3, -1), z(4, 1), api.OK}, {z(0, 0), z(0, 0), z(0, 0), api.OK}, {z(-5, 7), z(5, -7), z(0, 0), api.OK},
		{z(most-1, 0), z(1, 0), z(most, 0), api.OK}, {z(most, 0), z(1, 0), z(0, 0), api.ErrLarge}, {z(1, 0), z(most, 0), z(0, 0), api.ErrLarge},
		{z(0, most-1), z(0, 1), z(0, most), api.OK}, {z(3, most), z(4, 1), z(0, 0), api.ErrLarge},
		{z(1-most, 1-most), z(-1, -1), z(-most, -most), api.OK}, {z(-most, 0), z(-1, 0), z(0, 0), api.ErrLarge}, {z(0, -most), z(0, -1), z(0, 0), api.ErrLarge},
		{z(most, -most), z(-most, most), z(0, 0), api.OK}, {z(most, most), z(most, most), z(0, 0), api.ErrLarge},
	} {
		sum, e := phasor.Add(x.a, x.b)
		what := fmt.Sprint(x.a, " + ", x.b)
		same(t, what, sum, x.sum)
		same(t, what, e, x.e)
	}
}

// P1.2
func TestMul(t *testing.T) {
	for _, x := range []struct {
		a, b, product api.Eisen
		e             api.Errno
	}{
		{z(1, 2), z(3, -1), z(5, 7), api.OK}, {z(0, 1), z(0, 1), z(-1, -1), api.OK}, {z(0, 1), z(-1, -1), z(1, 0), api.OK}, {z(7, -3), z(1, 0), z(7, -3), api.OK}, {z(7, -3), z(0, 0), z(0, 0), api.OK},
		{z(most, 0), z(1, 0), z(most, 0), api.OK}, {z(1024, 0), z(1024, 0), z(most, 0), api.OK}, {z(1025, 0), z(1024, 0), z(0, 0), api.ErrLarge},
		{z(0, 1024), z(1024, 0), z(0, most), api.OK}, {z(0, 1025), z(1024, 0), z(0, 0), api.ErrLarge}, {z(-1025, 0), z(1024, 0), z(0, 0), api.ErrLarge}, {z(0, -1025), z(1024, 0), z(0, 0), api.ErrLarge},
		{z(most, -most), z(1, 1), z(0, 0), api.ErrLarge}, {z(most, most), z(1, 1), z(0, most), api.OK}, {z(most, 0), z(-1, -1), z(-most, -most), api.OK},
		{z(most, most), z(most, most), z(0, 0), api.ErrLarge}, {z(most, -most), z(-most, most), z(0, 0), api.ErrLarge}, {z(1<<10, 1<<10), z(1<<10, 1<<10), z(0, most), api.OK},
	} {
		product, e := phasor.Mul(x.a, x.b)
		what := fmt.Sprint(x.a, " times ", x.b)
		same(t, what, product, x.product)
		same(t, what, e, x.e)
	}
}

// P1.2: the definition, for all small numbers.
func TestMulOfSmallNumbers(t *testing.T) {
	for n := range 7 * 7 * 7 * 7 {
		a, b := z(n%7-3, n/7%7-3), z(n/49%7-3, n/343-3)
		product, e := phasor.Mul(a, b)
		same(t, fmt.Sprint(a, " times ", b), product, times(a, b))
		same(t, "error", e, api.OK)
	}
}

// P1.2
func TestAddAndMulErrors(t *testing.T) {
	for _, n := range beyond(most) {
		for _, bad := range []api.Eisen{z(n, 0), z(0, n), z(n, n)} {
			for _, x := range [][2]api.Eisen{{bad, z(0, 0)}, {z(0, 0), bad}, {bad, bad}} {
				sum, e := phasor.Add(x[0], x[1])
				same(t, "sum", sum, api.Eisen{})
				same(t, "error of the sum", e, api.ErrRange)
				product, e := phasor.Mul(x[0], x[1])
				same(t, "product", product, api.Eisen{})
				same(t, "error of the product", e, api.ErrRange)
			}
		}
	}
}

// P1.2
func TestTurned(t *testing.T) {
	for _, x := range []struct {
		x      api.Eisen
		sixths int
		turned api.Eisen
		e      api.Errno
	}{
		{z(3, 1), 0, z(3, 1), api.OK}, {z(3, 1), 1, z(2, 3), api.OK}, {z(3, 1), 2, z(-1, 2), api.OK}, {z(3, 1), 3, z(-3, -1), api.OK}, {z(3, 1), 4, z(-2, -3), api.OK}, {z(3, 1), 5, z(1, -2), api.OK}, {z(3, 1), 6, z(3, 1), api.OK},
		{z(3, 1), -1, z(1, -2), api.OK}, {z(3, 1), -2, z(-2, -3), api.OK}, {z(3, 1), -3, z(-3, -1), api.OK}, {z(3, 1), -6, z(3, 1), api.OK}, {z(3, 1), -7, z(1, -2), api.OK},
		{z(3, 1), 1000000, z(-2, -3), api.OK}, {z(3, 1), -1000000, z(-1, 2), api.OK}, {z(3, 1), 1000001, z(0, 0), api.ErrRange}, {z(3, 1), -1000001, z(0, 0), api.ErrRange},
		{z(3, 1), math.MaxInt, z(0, 0), api.ErrRange}, {z(3, 1), math.MinInt, z(0, 0), api.ErrRange},
		{z(most, -most), 1, z(0, 0), api.ErrLarge}, {z(most, -most), -1, z(0, 0), api.ErrLarge}, {z(most, -most), 2, z(0, 0), api.ErrLarge},
		{z(most, -most), 3, z(-most, most), api.OK}, {z(most, -most), 6, z(most, -most), api.OK}, {z(most, -most), -999999, z(-most, most), api.OK},
		{z(most, -1), 1, z(0, 0), api.ErrLarge}, {z(most, 0), 1, z(most, most), api.OK}, {z(-most, 1), 1, z(0, 0), api.ErrLarge}, {z(-1, most), -1, z(0, 0), api.ErrLarge}, {z(1, -most), 5, z(0, 0), api.ErrLarge},
		{z(most+1, 0), 0, z(0, 0), api.ErrRange}, {z(0, -most-1), 0, z(0, 0), api.ErrRange}, {z(most, -most), 1000001, z(0, 0), api.ErrRange},
	} {
		turned, e := phasor.Turned(x.x, x.sixths)
		what := fmt.Sprint(x.x, " turned by ", x.sixths)
		same(t, what, turned, x.turned)
		same(t, what, e, x.e)
	}
}

// P1.2
func TestNorm(t *testing.T) {
	for _, x := range []struct {
		x    api.Eisen
		norm int
	}{{z(0, 0), 0}, {z(1, 2), 3}, {z(3, -1), 13}, {z(5, 7), 39}, {z(1, 1), 1}, {z(0, -1), 1}, {z(-4, 0), 16}, {z(most, most), most * most}, {z(most, -most), 3 * most * most}, {z(-most, 0), most * most}} {
		n, e := phasor.Norm(x.x)
		same(t, fmt.Sprint("norm of ", x.x), n, x.norm)
		same(t, "error", e, api.OK)
	}
	for _, n := range beyond(most) {
		for _, x := range []api.Eisen{z(n, 0), z(0, n)} {
			n, e := phasor.Norm(x)
			same(t, fmt.Sprint("norm of ", x), n, 0)
			same(t, "error", e, api.ErrRange)
		}
	}
}

// P1.2
func TestFramed(t *testing.T) {
	corner := z(most, -most)
	for _, x := range []struct {
		what   string
		l      []api.Eisen
		sixths int
		framed []api.Eisen
		e      api.Errno
	}{
		{"nothing", nil, 5, nil, api.OK},
		{"one sixth", []api.Eisen{z(1, 0), z(1, 1), z(0, 1)}, 1, []api.Eisen{z(1, 0), z(1, 0), z(1, 0)}, api.OK},
		{"one sixth back", []api.Eisen{z(1, 0), z(1, 0), z(1, 0)}, -1, []api.Eisen{z(1, 0), z(1, 1), z(0, 1)}, api.OK},
		{"no sixth", []api.Eisen{z(5, 2), corner, z(-7, 0)}, 0, []api.Eisen{z(5, 2), corner, z(-7, 0)}, api.OK},
		{"most sixths", []api.Eisen{z(3, 1), z(3, 1), z(3, 1)}, 1000000, []api.Eisen{z(3, 1), z(-1, 2), z(-2, -3)}, api.OK},
		{"least sixths", []api.Eisen{z(3, 1), z(3, 1)}, -1000000, []api.Eisen{z(3, 1), z(-2, -3)}, api.OK},
		{"a first element is not turned", []api.Eisen{corner, z(1, 0)}, 1, []api.Eisen{corner, z(0, -1)}, api.OK},
		{"too large at the end", []api.Eisen{z(0, 0), corner}, -1, nil, api.ErrLarge},
		{"too large before the end", []api.Eisen{z(0, 0), corner, z(1, 0)}, 1, nil, api.ErrLarge},
		{"too large only on the way", []api.Eisen{z(0, 0), corner}, 3, []api.Eisen{z(0, 0), z(-most, most)}, api.OK},
		{"an element out of range", []api.Eisen{z(0, 0), z(most+1, 0)}, 0, nil, api.ErrRange},
		{"a range before a size", []api.Eisen{z(0, 0), corner, z(0, -most-1)}, 1, nil, api.ErrRange},
		{"too many sixths", []api.Eisen{z(0, 0), corner}, 1000001, nil, api.ErrRange},
		{"too many sixths back", nil, -1000001, nil, api.ErrRange},
		{"too many elements", make([]api.Eisen, 257), 0, nil, api.ErrMany},
		{"too many elements before sixths", make([]api.Eisen, 257), 1000001, nil, api.ErrMany},
		{"too many elements before their ranges", slices.Repeat([]api.Eisen{z(most+1, 0)}, 257), 0, nil, api.ErrMany},
	} {
		framed, e := phasor.Framed(x.l, x.sixths)
		sameList(t, x.what, framed, x.framed)
		same(t, x.what, e, x.e)
	}
}

// P1.2: a list as long as it may be, which is not changed.
func TestFramedLong(t *testing.T) {
	l := slices.Repeat([]api.Eisen{z(3, 1)}, 256)
	for _, sixths := range []int{1, -1, 5, 999999, -1000000, 1000000} {
		framed, e := phasor.Framed(l, sixths)
		same(t, "error", e, api.OK)
		same(t, "length", len(framed), 256)
		for i, x := range framed {
			same(t, fmt.Sprint(sixths, " at ", i), x, sixth(z(3, 1), -sixths%6*i))
		}
		if len(framed) == 256 {
			framed[0] = z(9, 9)
		}
		sameList(t, "the argument", l, slices.Repeat([]api.Eisen{z(3, 1)}, 256))
	}
}
