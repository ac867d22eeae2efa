package harmonic_test

import (
	"fmt"
	"math/rand"
	"slices"
	"testing"

	"bipole/api"
	"bipole/harmonic"
)

// product returns the product of two root numbers.
func product(x, y harmonic.Root) harmonic.Root {
	return harmonic.Root{A: x.A*y.A + 3*x.B*y.B, B: x.A*y.B + x.B*y.A}
}

// P4.6: products keep strengths, and turns leave them.
func TestConsequencesOfProducts(t *testing.T) {
	r := rand.New(rand.NewSource(461))
	for range 3000 {
		x, y := randomNumber(r, 300), randomNumber(r, 300)
		both, _ := harmonic.Product(x, y)
		s, e := harmonic.Strength(both)
		first, _ := harmonic.Strength(x)
		second, _ := harmonic.Strength(y)
		is(t, fmt.Sprint("the strength of the product of ", x, y), s, product(first, second))
		is(t, fmt.Sprint("the strength of the product of ", x, y), e, api.OK)
		n := between(r, -100000, 100000)
		turned, _ := harmonic.Turned(x, n)
		s, e = harmonic.Strength(turned)
		is(t, fmt.Sprint("the strength of ", x, " turned by ", n), s, first)
		is(t, fmt.Sprint("the strength of ", x, " turned by ", n), e, api.OK)
		back, _ := harmonic.Turned(turned, -n)
		is(t, fmt.Sprint(x, " turned there and back"), back, x)
		sign, _ := harmonic.Sign(first)
		is(t, fmt.Sprint("the sign of the strength of ", x), sign == 1, x != harmonic.Cyclo{})
	}
}

// strengths returns the strengths of all orders of a pattern.
func strengths(t *testing.T, p pattern) [12]harmonic.Root {
	t.Helper()
	s, e := harmonic.Spectrum(p)
	is(t, fmt.Sprint("the spectrum of ", p), e, api.OK)
	var l [12]harmonic.Root
	for h, x := range s {
		l[h], e = harmonic.Strength(x)
		is(t, fmt.Sprint("the strength of ", x), e, api.OK)
	}
	return l
}

// P4.6, P5: strengths add up to 12 times the squared levels; a delay leaves them;
// those of the orders 1 and 5 are conjugate.
func TestConsequencesOfSpectra(t *testing.T) {
	r := rand.New(rand.NewSource(462))
	for n := range 2000 {
		p := randomPattern(r, []int{1, 5, 100}[n%3])
		l := strengths(t, p)
		sum, squares := harmonic.Root{}, 0
		for h, level := range p {
			sum = harmonic.Root{A: sum.A + l[h].A, B: sum.B + l[h].B}
			squares += level * level
		}
		is(t, fmt.Sprint("the strengths of ", p), sum, harmonic.Root{A: 12 * squares})
		is(t, fmt.Sprint("the order 5 of ", p), l[5], harmonic.Root{A: l[1].A, B: -l[1].B})
		eliminated, _ := harmonic.Eliminated(p)
		is(t, fmt.Sprint("eliminated of ", p), slices.Contains(eliminated, 1), slices.Contains(eliminated, 5))
		delay := between(r, -100000, 100000)
		delayed, _ := harmonic.Delayed(p, delay)
		is(t, fmt.Sprint(p, " delayed by ", delay), strengths(t, delayed), l)
		back, _ := harmonic.Delayed(delayed, -delay)
		is(t, fmt.Sprint(p, " delayed by ", delay, " and back"), back, p)
	}
}

// P4.6: patterns come back from their spectra and records.
func TestConsequencesOfPatterns(t *testing.T) {
	r := rand.New(rand.NewSource(463))
	for n := range 1000 {
		p := randomPattern(r, []int{1, 5, 100}[n%3])
		s, _ := harmonic.Spectrum(p)
		back, e := harmonic.Back(s)
		is(t, "a pattern from its spectrum", back, p)
		is(t, "a pattern from its spectrum", e, api.OK)
		l, _ := harmonic.Record(p, between(r, 1, 16))
		back, e = harmonic.Levels(l)
		is(t, "a pattern from its record", back, p)
		is(t, "a pattern from its record", e, api.OK)
	}
}

// P4.6: a quarter pattern has no even orders.
func TestConsequencesOfQuarters(t *testing.T) {
	r := rand.New(rand.NewSource(464))
	for range 1000 {
		l := [3]int{between(r, -100, 100), between(r, -100, 100), between(r, -100, 100)}
		p, _ := harmonic.Quarter(l)
		s, _ := harmonic.Spectrum(p)
		for h := 0; h < 12; h += 2 {
			is(t, fmt.Sprint("the order ", h, " of ", p), s[h], harmonic.Cyclo{})
		}
	}
}

// P4.6: no triple within the limits has a greater strength than the design.
func TestConsequencesOfDesigns(t *testing.T) {
	r := rand.New(rand.NewSource(465))
	found := 0
	for range 60 {
		most, limits := between(r, 1, 6), same(between(r, 0, 60))
		design, e := harmonic.Design(most, limits)
		if e != api.OK {
			is(t, "no design", e, api.ErrInfeasible)
		} else {
			found++
		}
		p, _ := harmonic.Quarter(design)
		greatest := strengths(t, p)[1]
		for n := range (most + 1) * (most + 1) * (most + 1) {
			l := [3]int{n % (most + 1), n / (most + 1) % (most + 1), n / (most + 1) / (most + 1)}
			p, _ := harmonic.Quarter(l)
			first := strengths(t, p)[1]
			excess, _ := harmonic.Excess(p, limits)
			more, _ := harmonic.Sign(harmonic.Root{A: first.A - greatest.A, B: first.B - greatest.B})
			if more == 1 && len(excess) == 0 {
				t.Errorf("%v is greater than the design %v for %d, %v", l, design, most, limits)
			}
		}
	}
	if found < 20 {
		t.Errorf("only %d of 60 designs are found", found)
	}
}

// P4.6, P5: a filter that does not meet a polygon is separated from it by an edge,
// and one that meets it by none.
func TestConsequencesOfMeetings(t *testing.T) {
	r := rand.New(rand.NewSource(466))
	for n := range 5000 {
		f, l, h := randomFilter(r), randomPolygon(r, []int{2, 5, 1000}[n%3]), between(r, 1, 12)
		meets, _ := harmonic.Meets(f, l, h)
		edge, e := harmonic.Edge(f, l, h)
		is(t, fmt.Sprint("an edge of ", f, l, h), e == api.OK, !meets)
		proofs := 0
		for k := range l {
			if harmonic.CheckEdge(f, l, h, k) == api.OK {
				proofs++
			}
		}
		is(t, fmt.Sprint("the proofs of ", f, l, h), proofs > 0, !meets)
		if !meets {
			is(t, fmt.Sprint("the proof of ", f, l, h), harmonic.CheckEdge(f, l, h, edge), api.OK)
		}
	}
}

// P4.6: a polygon that holds the corners of another one holds all of its points.
func TestConsequencesOfPolygons(t *testing.T) {
	r := rand.New(rand.NewSource(467))
	held := 0
	for range 5000 {
		outer, inner := randomPolygon(r, 12), randomPolygon(r, 6)
		holds := true
		for _, corner := range inner {
			inside, _ := harmonic.Inside(outer, corner)
			holds = holds && inside
		}
		if !holds {
			continue
		}
		held++
		for range 50 {
			p := g(between(r, -6, 6), between(r, -6, 6))
			first, _ := harmonic.Inside(inner, p)
			second, _ := harmonic.Inside(outer, p)
			is(t, fmt.Sprint(p, " in ", inner, " and not in ", outer), first && !second, false)
		}
	}
	if held < 300 {
		t.Errorf("only %d of 5000 polygons hold another one", held)
	}
}

// P4.6: a tap that avoids does, and none that is less does.
func TestConsequencesOfTaps(t *testing.T) {
	r := rand.New(rand.NewSource(468))
	found := 0
	for n := range 3000 {
		f, l, orders := randomFilter(r), randomPolygon(r, []int{2, 5, 1000}[n%3]), randomOrders(r)
		branch := r.Intn(len(f.Branches))
		avoids := func(tap int) bool {
			changed, e := harmonic.Tapped(f, branch, tap)
			return e == api.OK && !slices.ContainsFunc(orders, func(h int) bool {
				meets, e := harmonic.Meets(changed, l, h)
				return meets || e != api.OK
			})
		}
		best, e := harmonic.Avoid(f, branch, l, orders)
		if e == api.OK {
			found++
			is(t, fmt.Sprint(f, branch, l, orders, best), avoids(best), true)
		} else {
			best = 9
		}
		for tap := -max(best, -best); tap <= max(best, -best); tap++ {
			if less := max(tap, -tap) < max(best, -best) || tap < best; less && tap > -9 {
				is(t, fmt.Sprint(f, branch, l, orders, tap), avoids(tap), false)
			}
		}
	}
	if found < 500 {
		t.Errorf("only %d of 3000 taps are found", found)
	}
}

// P4.6: filters are parsed as they were printed.
func TestConsequencesOfTexts(t *testing.T) {
	r := rand.New(rand.NewSource(469))
	for range 2000 {
		f := randomFilter(r)
		s, e := harmonic.Print(f)
		is(t, s, e, api.OK)
		parsed, at, e := harmonic.Parse(s)
		isFilter(t, s, parsed, f)
		is(t, s+": index", at, 0)
		is(t, s+": error", e, api.OK)
	}
}
