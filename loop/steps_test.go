package loop_test

import (
	"fmt"
	"math/big"
	"math/rand"
	"slices"
	"testing"

	"bipole/api"
	"bipole/loop"
)

// P3.4
func TestStepped(t *testing.T) {
	for _, x := range []struct {
		p      loop.Poly
		first  []int
		steps  int
		values []int
	}{
		{loop.Poly{-1, 2}, []int{8}, 3, []int{8, 8, 8, 8}},
		{loop.Poly{0, 0, 3}, []int{5, 7}, 3, []int{5, 21, 0, 0, 0}},
		{loop.Poly{-1, -1, 1}, []int{1, 1}, 4, []int{1, 1, 2, 3, 5, 8}},
		{loop.Poly{-1, 2}, []int{8}, 0, []int{8}},
		{loop.Poly{1, 2, 3, 4, 5}, []int{6, 7, 8, 9}, 0, []int{6, 35, 200, 1125}},
		{loop.Poly{1, 1}, []int{-1000}, 3, []int{-1000, 1000, -1000, 1000}},
		{loop.Poly{2, -3}, []int{1}, 4, []int{1, -2, 4, -8, 16}},
		{loop.Poly{1, 2, -3}, []int{1, 1}, 3, []int{1, -3, 9, -27, 81}},
		{loop.Poly{1, 0, 0, 2}, []int{1, 2, 3}, 3, []int{1, 4, 12, -4, -16, -48}},
		{loop.Poly{-1, 0, 0, 0, 1}, []int{1, 2, 3, 4}, 6, []int{1, 2, 3, 4, 1, 2, 3, 4, 1, 2}},
		{loop.Poly{0, 1, 0, 0, 100}, []int{1000, 1000, 1000, 1000}, 0, []int{1000, 100000, 10000000, 1000000000}},
		{loop.Poly{0, 1, 0, 0, -100}, []int{-1000, 1000, -1000, 1000}, 0, []int{-1000, -100000, -10000000, -1000000000}},
		{loop.Poly{0, 100}, []int{1000}, 24, append([]int{1000}, make([]int, 24)...)},
	} {
		what := fmt.Sprint(x.p, x.first, x.steps)
		values, e := loop.Stepped(x.p, x.first, x.steps)
		isList(t, what, values, x.values)
		is(t, what, e, api.OK)
	}
}

// P3.4
func TestSteppedErrors(t *testing.T) {
	p := loop.Poly{0, 0, 1}
	for _, x := range []struct {
		what  string
		p     loop.Poly
		first []int
		steps int
		e     api.Errno
	}{
		{"the degree 0", loop.Poly{5}, nil, 1, api.ErrEmpty},
		{"the degree 0, with values", loop.Poly{5}, []int{1001}, -1, api.ErrEmpty},
		{"no values", p, nil, 1, api.ErrShape},
		{"one value too few", p, []int{1001}, -1, api.ErrShape},
		{"one value too many", p, []int{1001, 1, 1}, 1, api.ErrShape},
		{"a value out of its range", p, []int{0, -1001}, 25, api.ErrRange},
		{"one step too many", p, []int{1, 1}, 25, api.ErrRange},
		{"too large", loop.Poly{-100, 1}, []int{1000}, 4, api.ErrLarge},
		{"too large, below 0", loop.Poly{100, 1}, []int{1000}, 5, api.ErrLarge},
		{"too large in the first step", loop.Poly{100, 100, 100, 100, 100}, []int{1000, 1000, 1000, 1000}, 1, api.ErrLarge},
		{"too large long before the last step", loop.Poly{-100, 100, -100, 100, -100}, []int{1000, -1000, 1000, -1000}, 24, api.ErrLarge},
		{"too large between", loop.Poly{0, 0, 100, -100}, []int{0, 0, 1000}, 24, api.ErrLarge},
	} {
		values, e := loop.Stepped(x.p, x.first, x.steps)
		isList(t, x.what, values, nil)
		is(t, x.what, e, x.e)
	}
	for _, n := range beyond(-1000, 1000) {
		for _, first := range [][]int{{n, 1}, {1, n}} {
			values, e := loop.Stepped(p, first, 1)
			isList(t, fmt.Sprint(first), values, nil)
			is(t, fmt.Sprint(first), e, api.ErrRange)
		}
	}
	for _, n := range append(beyond(0, 24), 100) {
		values, e := loop.Stepped(p, []int{1, 1}, n)
		isList(t, fmt.Sprint("steps ", n), values, nil)
		is(t, fmt.Sprint("steps ", n), e, api.ErrRange)
	}
}

// P3.4: 2 to the power of 30 is not too large, above or below 0.
func TestSteppedLimits(t *testing.T) {
	for _, x := range []struct {
		p     loop.Poly
		first int
		steps int
		last  int
		e     api.Errno
	}{
		{loop.Poly{-2, 1}, 64, 24, 1 << 30, api.OK}, {loop.Poly{-2, 1}, -64, 24, -1 << 30, api.OK}, {loop.Poly{2, 1}, -64, 24, -1 << 30, api.OK}, {loop.Poly{2, 1}, 128, 23, -1 << 30, api.OK},
		{loop.Poly{-2, 1}, 65, 24, 0, api.ErrLarge}, {loop.Poly{-2, 1}, -65, 24, 0, api.ErrLarge}, {loop.Poly{-2, 1}, 65, 23, 65 << 23, api.OK}, {loop.Poly{-2, 1}, 128, 24, 0, api.ErrLarge}, {loop.Poly{2, 1}, 128, 24, 0, api.ErrLarge},
	} {
		values, e := loop.Stepped(x.p, []int{x.first}, x.steps)
		what := fmt.Sprint(x.p, x.first, x.steps)
		is(t, what, e, x.e)
		if e == api.OK {
			is(t, what, values[len(values)-1], x.last)
		}
	}
}

// steppedOf is the definition of the scaled values, written once more by the
// values themselves, or nothing if one is too large.
func steppedOf(p loop.Poly, first []int, steps int) []int {
	n := len(p) - 1
	var y []*big.Rat
	for _, x := range first {
		y = append(y, big.NewRat(int64(x), 1))
	}
	for t := n; t < n+steps; t++ {
		sum := new(big.Rat)
		for k := range n {
			sum.Sub(sum, new(big.Rat).Mul(big.NewRat(int64(p[k]), 1), y[t-n+k]))
		}
		y = append(y, sum.Quo(sum, big.NewRat(int64(p[n]), 1)))
	}
	var l []int
	power := big.NewRat(1, 1)
	for _, x := range y {
		scaled := new(big.Rat).Mul(x, power)
		if !scaled.IsInt() || scaled.Num().CmpAbs(big.NewInt(1<<30)) > 0 {
			return nil
		}
		l = append(l, int(scaled.Num().Int64()))
		power = power.Mul(power, big.NewRat(int64(p[n]), 1))
	}
	return l
}

// P3.4: scaled values are the values times the powers of the last coefficient.
func TestSteppedMany(t *testing.T) {
	r := rand.New(rand.NewSource(341))
	large := 0
	for range 10000 {
		p := randomPoly(r, 1+r.Intn(4), between(r, 1, 6))
		first := make([]int, len(p)-1)
		for i := range first {
			first[i] = between(r, -20, 20)
		}
		steps := r.Intn(25)
		want, wanted := steppedOf(p, first, steps), api.OK
		if want == nil {
			wanted = api.ErrLarge
			large++
		}
		values, e := loop.Stepped(p, first, steps)
		isList(t, fmt.Sprint(p, first, steps), values, want)
		is(t, fmt.Sprint(p, first, steps), e, wanted)
		if slices.Max(first) > 20 {
			t.Fatal("the first values are changed")
		}
	}
	if large < 1000 || large > 9000 {
		t.Errorf("%d of 10000 runs are too large", large)
	}
}
