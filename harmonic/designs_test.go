package harmonic_test

import (
	"fmt"
	"math/rand"
	"testing"

	"bipole/api"
	"bipole/harmonic"
)

// badLimits returns limits of which one, or more, are not in their range.
func badLimits() [][7]int {
	var l [][7]int
	for i := range 7 {
		for _, n := range beyond(0, 256) {
			one, other := same(0), same(256)
			one[i], other[i] = n, n
			l = append(l, one, other)
		}
	}
	return append(l, same(257), same(-1))
}

// with returns limits that are all n but one.
func with(n, index, limit int) [7]int {
	l := same(n)
	l[index] = limit
	return l
}

// P4.3
func TestExcess(t *testing.T) {
	for _, x := range []struct {
		p      pattern
		limits [7]int
		l      []int
	}{
		{low(), same(18), []int{5}}, {low(), same(19), nil}, {low(), with(0, 5, 18), []int{5}}, {low(), with(0, 5, 19), nil}, {low(), with(256, 5, 18), []int{5}}, {low(), with(18, 5, 19), nil},
		{square(), same(34), []int{3}}, {square(), same(35), nil}, {square(), same(18), []int{3, 5}}, {square(), same(0), []int{3, 5}}, {square(), with(256, 3, 34), []int{3}}, {square(), with(0, 3, 35), []int{5}},
		{pattern{5}, same(255), []int{2, 3, 4, 5, 6}}, {pattern{5}, same(256), nil}, {pattern{5}, same(0), []int{2, 3, 4, 5, 6}}, {pattern{-100}, with(256, 2, 255), []int{2}}, {pattern{-100}, with(256, 6, 255), []int{6}}, {pattern{-100}, with(255, 4, 256), []int{2, 3, 5, 6}}, {pattern{5}, with(256, 0, 0), nil}, {pattern{5}, with(256, 1, 0), nil},
		{pattern{}, same(0), nil}, {pattern{}, same(256), nil}, {comb(), same(256), []int{6}}, {pattern{3, 3, 3, 3, 3, 3, 3, 3, 3, 3, 3, 3}, same(0), nil}, {pattern{1, 0, 0, 0, 1, 0, 0, 0, 1}, same(256), []int{3, 6}},
	} {
		l, e := harmonic.Excess(x.p, x.limits)
		isList(t, fmt.Sprint("excess of ", x.p, " with ", x.limits), l, x.l)
		is(t, fmt.Sprint("excess of ", x.p, " with ", x.limits), e, api.OK)
	}
	for _, limits := range badLimits() {
		l, e := harmonic.Excess(low(), limits)
		isList(t, fmt.Sprint("excess with ", limits), l, nil)
		is(t, fmt.Sprint("excess with ", limits), e, api.ErrRange)
	}
}

// P4.3: the definition, with levels and limits from the whole of their ranges.
func TestExcessOfMany(t *testing.T) {
	r := rand.New(rand.NewSource(431))
	seen := map[int]int{}
	for n := range 5000 {
		p := randomPattern(r, []int{1, 5, 100}[n%3])
		var limits [7]int
		for i := range limits {
			limits[i] = between(r, 0, []int{5, 100, 256}[r.Intn(3)])
		}
		s := spectrumOf(p)
		first := strengthOf(t, s[1])
		var want []int
		for h := 2; h <= 6; h++ {
			x := strengthOf(t, s[h])
			if signOf(256*x.A-limits[h]*first.A, 256*x.B-limits[h]*first.B) == 1 {
				want = append(want, h)
				seen[h]++
			}
		}
		l, e := harmonic.Excess(p, limits)
		isList(t, fmt.Sprint("excess of ", p, " with ", limits), l, want)
		is(t, fmt.Sprint("excess of ", p, " with ", limits), e, api.OK)
	}
	for h := 2; h <= 6; h++ {
		if seen[h] < 500 || seen[h] > 4900 {
			t.Errorf("the order %d is in excess in %d of 5000 patterns", h, seen[h])
		}
	}
}

// P4.3
func TestQuarter(t *testing.T) {
	for l, want := range map[[3]int]pattern{
		{1, 2, 3}:         {1, 2, 3, 3, 2, 1, -1, -2, -3, -3, -2, -1},
		{0, 1, 1}:         low(),
		{1, 1, 1}:         square(),
		{}:                {},
		{-100, 100, -100}: {-100, 100, -100, -100, 100, -100, 100, -100, 100, 100, -100, 100},
	} {
		p, e := harmonic.Quarter(l)
		is(t, fmt.Sprint("the quarter pattern of ", l), p, want)
		is(t, fmt.Sprint("the quarter pattern of ", l), e, api.OK)
	}
	for i := range 3 {
		for _, n := range beyond(-100, 100) {
			l := [3]int{100, -100, 100}
			l[i] = n
			p, e := harmonic.Quarter(l)
			is(t, fmt.Sprint("the quarter pattern of ", l), p, pattern{})
			is(t, fmt.Sprint("the quarter pattern of ", l), e, api.ErrRange)
		}
	}
}

// P4.3
func TestDesign(t *testing.T) {
	for _, x := range []struct {
		most   int
		limits [7]int
		design [3]int
	}{
		{1, same(19), [3]int{0, 1, 1}}, {1, same(35), [3]int{1, 1, 1}}, {2, with(0, 5, 256), [3]int{0, 2, 2}}, {12, with(0, 5, 256), [3]int{0, 12, 12}}, {12, same(256), [3]int{12, 12, 12}}, {12, same(35), [3]int{12, 12, 12}}, {1, with(0, 5, 19), [3]int{0, 1, 1}},
		// Of several triples that are as strong the first one.
		{3, [7]int{0, 0, 0, 46, 0, 1, 0}, [3]int{0, 1, 3}}, {3, [7]int{0, 0, 0, 222, 0, 1, 0}, [3]int{0, 1, 3}},
		// Even orders need no limit.
		{1, [7]int{0, 0, 0, 35, 0, 35, 0}, [3]int{1, 1, 1}},
	} {
		design, e := harmonic.Design(x.most, x.limits)
		is(t, fmt.Sprint("the design for ", x.most, x.limits), design, x.design)
		is(t, fmt.Sprint("the design for ", x.most, x.limits), e, api.OK)
	}
}

// strengthsOf returns the strengths of the orders 1, 3 and 5 of a quarter pattern
// by other means: they are the squares of root 2 times x + y r, for the orders 1
// and 5, and of root 8 times x, as 4 sin 15, 4 sin 45 and 4 sin 75 degrees are
// root 2 times r - 1, 2 and r + 1.
func strengthsOf(l [3]int) (first, third, fifth harmonic.Root) {
	a, b, c := l[0], l[1], l[2]
	doubled := func(x, y int) harmonic.Root {
		return harmonic.Root{A: 2 * (x*x + 3*y*y), B: 4 * x * y}
	}
	return doubled(c+2*b-a, a+c), harmonic.Root{A: 8 * (a + b - c) * (a + b - c)}, doubled(a-2*b-c, a+c)
}

// fits reports whether a strength is not above a limit.
func fits(x, first harmonic.Root, limit int) bool {
	return signOf(256*x.A-limit*first.A, 256*x.B-limit*first.B) <= 0
}

// designsOf returns all triples with the greatest strength of the order 1 within
// limits.
func designsOf(most int, limits [7]int) [][3]int {
	var designs [][3]int
	var greatest harmonic.Root
	for n := range (most + 1) * (most + 1) * (most + 1) {
		l := [3]int{n / (most + 1) / (most + 1), n / (most + 1) % (most + 1), n % (most + 1)}
		first, third, fifth := strengthsOf(l)
		more := signOf(first.A-greatest.A, first.B-greatest.B)
		if first == (harmonic.Root{}) || more < 0 || !fits(third, first, limits[3]) || !fits(fifth, first, limits[5]) {
			continue
		}
		if more > 0 {
			designs = nil
		}
		designs, greatest = append(designs, l), first
	}
	return designs
}

// P4.3: the definition, for all greatest levels; the first design of several.
func TestDesignOfMany(t *testing.T) {
	r := rand.New(rand.NewSource(432))
	designed, several := 0, 0
	for n := range 600 {
		most := n % 13
		var limits [7]int
		for i := range limits {
			limits[i] = between(r, 0, []int{2, 20, 256}[r.Intn(3)])
		}
		if n%5 == 0 { // where designs are as strong as others
			most, limits[3], limits[5] = 3, between(r, 10, 256), between(r, 0, 3)
		}
		designs := designsOf(most, limits)
		what := fmt.Sprint("the design for ", most, limits)
		want, wanted := [3]int{}, api.ErrInfeasible
		if len(designs) > 0 {
			want, wanted = designs[0], api.OK
			designed++
		}
		if len(designs) > 1 {
			several++
		}
		design, e := harmonic.Design(most, limits)
		is(t, what, design, want)
		is(t, what, e, wanted)
	}
	if designed < 200 || designed > 550 || several < 20 {
		t.Errorf("there are designs for %d of 600 limits, and several for %d", designed, several)
	}
}

// P4.3
func TestErrorsOfDesign(t *testing.T) {
	notDesigned := func(most int, limits [7]int, want api.Errno) {
		t.Helper()
		design, e := harmonic.Design(most, limits)
		is(t, fmt.Sprint("the design for ", most, limits), design, [3]int{})
		is(t, fmt.Sprint("the design for ", most, limits), e, want)
	}
	for _, n := range beyond(0, 12) {
		notDesigned(n, same(256), api.ErrRange)
	}
	for _, limits := range badLimits() {
		notDesigned(1, limits, api.ErrRange)
		notDesigned(0, limits, api.ErrRange)
	}
	notDesigned(0, same(256), api.ErrInfeasible)
	notDesigned(0, same(0), api.ErrInfeasible)
	notDesigned(1, same(0), api.ErrInfeasible)
	notDesigned(12, same(0), api.ErrInfeasible)
	notDesigned(1, same(18), api.ErrInfeasible)
}
