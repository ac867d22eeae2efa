package loop_test

import (
	"fmt"
	"math/rand"
	"slices"
	"testing"

	"bipole/api"
	"bipole/loop"
)

// randomPoint returns a complex integer.
func randomPoint(r *rand.Rand) api.Gauss {
	return api.Gauss{Re: between(r, -8, 8), Im: between(r, -8, 8)}
}

// P3.6: values of sums and products are the sums and products of the values.
func TestConsequencesOfValues(t *testing.T) {
	r := rand.New(rand.NewSource(361))
	sums, products := 0, 0
	for range 5000 {
		a, b, z := randomPoly(r, r.Intn(5), 12), randomPoly(r, r.Intn(5), 12), randomPoint(r)
		x, _ := loop.Value(a, z)
		y, _ := loop.Value(b, z)
		if sum, e := loop.Sum(a, b); e == api.OK {
			v, e := loop.Value(sum, z)
			is(t, fmt.Sprint(a, " + ", b, " at ", z), v, api.Gauss{Re: x.Re + y.Re, Im: x.Im + y.Im})
			is(t, fmt.Sprint(a, " + ", b, " at ", z), e, api.OK)
			sums++
		}
		if product, e := loop.Product(a, b); e == api.OK {
			v, e := loop.Value(product, z)
			is(t, fmt.Sprint(a, " * ", b, " at ", z), v, api.Gauss{Re: x.Re*y.Re - x.Im*y.Im, Im: x.Re*y.Im + x.Im*y.Re})
			is(t, fmt.Sprint(a, " * ", b, " at ", z), e, api.OK)
			products++
		}
	}
	if sums < 1000 || products < 500 {
		t.Errorf("only %d sums and %d products", sums, products)
	}
}

// P3.6: a product is stable exactly if both factors are.
func TestConsequencesOfProducts(t *testing.T) {
	r := rand.New(rand.NewSource(362))
	seen := map[bool]int{}
	for range 10000 {
		a := randomPoly(r, r.Intn(5), 9)
		b := randomPoly(r, r.Intn(6-len(a)), 9)
		product, e := loop.Product(a, b)
		if e != api.OK {
			continue
		}
		first, _ := loop.Stable(a)
		second, _ := loop.Stable(b)
		stable, e := loop.Stable(product)
		is(t, fmt.Sprint(a, " * ", b), stable, first && second)
		is(t, fmt.Sprint(a, " * ", b), e, api.OK)
		seen[stable]++
	}
	if seen[true] < 500 || seen[false] < 500 {
		t.Errorf("the products are stable, or not: %v", seen)
	}
}

// rooted returns a polynomial with known roots, and whether all of them lie
// inside of the unit circle: real ones p/q, and pairs whose product is c/a.
func rooted(r *rand.Rand) (loop.Poly, bool) {
	p, inside := loop.Poly{1}, true
	for range between(r, 1, 2) {
		if r.Intn(2) == 0 {
			above, below := between(r, -4, 4), between(r, 1, 4)
			p = plain(p, loop.Poly{-above, below})
			inside = inside && above < below && -above < below
			continue
		}
		a, c := between(r, 1, 4), between(r, 1, 4)
		b := 0
		for b*b < 4*a*c {
			b++
		}
		p = plain(p, loop.Poly{c, between(r, -b+1, b-1), a})
		inside = inside && c < a
	}
	return p, inside
}

// P3.6, P4: a polynomial whose roots are known is stable exactly if they lie
// inside of the unit circle.
func TestConsequencesOfRoots(t *testing.T) {
	r := rand.New(rand.NewSource(363))
	seen := map[bool]int{}
	for range 5000 {
		p, inside := rooted(r)
		stable, e := loop.Stable(p)
		is(t, fmt.Sprint(p), stable, inside)
		is(t, fmt.Sprint(p), e, api.OK)
		table, _ := loop.Table(p)
		is(t, fmt.Sprint("the proof of ", p), loop.CheckTable(p, table) == api.OK, inside)
		seen[stable]++
	}
	if seen[true] < 500 || seen[false] < 500 {
		t.Errorf("the polynomials are stable, or not: %v", seen)
	}
}

// P3.6: with the last coefficient 1 or -1 a polynomial is stable only if all
// others are 0, and then its steps end with 0.
func TestConsequencesOfLastCoefficients(t *testing.T) {
	var all []loop.Poly
	for _, last := range []int{1, -1} {
		for n := range 5 {
			all = append(all, append(make(loop.Poly, n), last))
		}
		for a := -5; a <= 5; a++ {
			for b := -5; b <= 5; b++ {
				all = append(all, loop.Poly{a, b, last}, loop.Poly{a, 0, b, last}, loop.Poly{0, a, b, 1, last}, loop.Poly{a, b, -b, a, last})
			}
		}
	}
	for _, p := range all {
		n := len(p) - 1
		nothing := !slices.ContainsFunc(p[:n], func(a int) bool { return a != 0 })
		stable, _ := loop.Stable(p)
		is(t, fmt.Sprint(p), stable, nothing)
		if !nothing || n == 0 {
			continue
		}
		first := []int{1000, -1000, 7, 1}[:n]
		values, e := loop.Stepped(p, first, 24)
		isList(t, fmt.Sprint("steps of ", p), values[n:], make([]int, 24))
		is(t, fmt.Sprint("steps of ", p), e, api.OK)
	}
}

// P3.6, P4: a certified box has no member that is not stable, each of them asked
// by itself.
func TestConsequencesOfBoxes(t *testing.T) {
	r := rand.New(rand.NewSource(364))
	certified := 0
	for range 5000 {
		l := randomLoop(r)
		b := randomBox(r, l)
		first, found, e := loop.Certify(l, b)
		if e != api.OK {
			continue
		}
		before := true
		for _, member := range membersOf(b) {
			l.PlantNum = member
			closed, e := loop.Closed(l)
			is(t, fmt.Sprint("a member ", l), e, api.OK)
			stable, e := loop.Stable(closed)
			is(t, fmt.Sprint("a member ", l), e, api.OK)
			if found && slices.Equal(member, first) {
				before = false
				is(t, fmt.Sprint("the first member ", l), stable, false)
			}
			if before {
				is(t, fmt.Sprint("a member ", l), stable, true)
			}
		}
		if !found {
			certified++
		}
		is(t, "the first member is one of the box", before, !found)
	}
	if certified < 200 {
		t.Errorf("only %d boxes are certified", certified)
	}
}

// P3.6: each phase of a ring that steps towards a phase falls into it, and its
// ways are numbers that prove it.
func TestConsequencesOfRings(t *testing.T) {
	r := rand.New(rand.NewSource(365))
	for range 500 {
		n, most := between(r, 1, 64), between(r, 1, 64)
		phase := r.Intn(n)
		ring, _ := loop.Made(n, phase, most)
		var numbers []int
		for from := range n {
			steps, e := loop.Locks(ring, from, phase)
			is(t, fmt.Sprint(n, phase, most, from), e, api.OK)
			way := min((phase-from+n)%n, (from-phase+n)%n)
			is(t, fmt.Sprint(n, phase, most, from), steps, (way+most-1)/most)
			numbers = append(numbers, steps)
		}
		is(t, fmt.Sprint(n, phase, most), loop.CheckBasin(ring, phase, numbers), api.OK)
	}
}

// P3.6: loops are parsed as they were printed.
func TestConsequencesOfTexts(t *testing.T) {
	r := rand.New(rand.NewSource(366))
	done := 0
	for range 2000 {
		l := randomLoop(r)
		s, e := loop.Print(l)
		if e != api.OK {
			continue
		}
		done++
		parsed, at, e := loop.Parse(s)
		isLoop(t, s, parsed, l)
		is(t, s+": index", at, 0)
		is(t, s+": error", e, api.OK)
		again, _ := loop.Print(parsed)
		is(t, s+": printed again", again, s)
	}
	if done < 1000 {
		t.Errorf("only %d of 2000 loops are printed", done)
	}
}
