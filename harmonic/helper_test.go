package harmonic_test

import (
	"math"
	"math/big"
	"math/rand"
	"slices"
	"testing"

	"bipole/api"
	"bipole/harmonic"
)

// is fails a test if a result is not the expected one.
func is[T comparable](t *testing.T, what string, got, want T) {
	t.Helper()
	if got != want {
		t.Errorf("%s: got %v, want %v", what, got, want)
	}
}

// isList fails a test if a list is not the expected one; nil and empty lists are equal.
func isList[T comparable](t *testing.T, what string, got, want []T) {
	t.Helper()
	if !slices.Equal(got, want) {
		t.Errorf("%s: got %v, want %v", what, got, want)
	}
}

// beyond returns integers that are not from low to high.
func beyond(low, high int) []int {
	return []int{low - 1, high + 1, -1 << 40, 1 << 40, math.MinInt, math.MaxInt}
}

// between returns a random integer from low to high.
func between(r *rand.Rand, low, high int) int {
	return low + r.Intn(high-low+1)
}

type (
	pattern  = [12]int
	spectrum = [12]harmonic.Cyclo
)

// z returns the number a + b w + i (c + d w).
func z(a, b, c, d int) harmonic.Cyclo {
	return harmonic.Cyclo{Re: api.Eisen{A: a, B: b}, Im: api.Eisen{A: c, B: d}}
}

// randomNumber returns a number whose integers are at most most in absolute value.
func randomNumber(r *rand.Rand, most int) harmonic.Cyclo {
	n := func() int { return between(r, -most, most) }
	return z(n(), n(), n(), n())
}

// ring is a number of the ring by other means: it has a coefficient for each of
// the powers 0 to 3 of the root e, of which w is the power 4 and i is the power
// 3. The power 4 is that of 2, less 1.
type ring [4]int

func ringOf(x harmonic.Cyclo) ring {
	return ring{x.Re.A - x.Re.B, -x.Im.B, x.Re.B, x.Im.A}
}

func (x ring) number() harmonic.Cyclo {
	return z(x[0]+x[2], x[2], x[3], -x[1])
}

func (x ring) plus(y ring) ring {
	for i := range x {
		x[i] += y[i]
	}
	return x
}

func (x ring) times(y ring) ring {
	var powers [7]int
	for i := range x {
		for k := range y {
			powers[i+k] += x[i] * y[k]
		}
	}
	for n := 6; n >= 4; n-- {
		powers[n-2] += powers[n]
		powers[n-4] -= powers[n]
	}
	return ring(powers[:4])
}

// turned returns a number times the power n of the root.
func (x ring) turned(n int) ring {
	for range (n%12 + 12) % 12 {
		x = x.times(ring{0, 1})
	}
	return x
}

// conjugate returns a number with the power -1 of the root, e - e^3, in its place.
func (x ring) conjugate() ring {
	y := ring{x[0]}
	for n := 1; n < 4; n++ {
		y = y.plus(ring{x[n]}.turned(-n))
	}
	return y
}

// strengthOf returns the product of a number with its conjugate, where r is
// 2 e - e^3.
func strengthOf(t *testing.T, x harmonic.Cyclo) harmonic.Root {
	t.Helper()
	s := ringOf(x).times(ringOf(x).conjugate())
	if s[1] != -2*s[3] || s[2] != 0 {
		t.Fatalf("the strength %v of %v is no root number", s, x)
	}
	return harmonic.Root{A: s[0], B: -s[3]}
}

// spectrumOf is the definition of the chapter, written once more.
func spectrumOf(p pattern) spectrum {
	var s spectrum
	for h := range s {
		var x ring
		for n, level := range p {
			x = x.plus(ring{level}.turned(-h * n))
		}
		s[h] = x.number()
	}
	return s
}

// signOf returns the sign of a + b r as floats find it: with 53 bits, or with as
// many as there have to be.
func signOf(a, b int) int {
	if rough := float64(a) + float64(b)*math.Sqrt(3); math.Abs(rough) > 1e-3*(math.Abs(float64(a))+1) {
		return int(math.Copysign(1, rough))
	}
	x := new(big.Float).SetPrec(400).SetInt64(3)
	x.Sqrt(x)
	x.Mul(x, new(big.Float).SetPrec(400).SetInt64(int64(b)))
	return x.Add(x, new(big.Float).SetPrec(400).SetInt64(int64(a))).Sign()
}

// randomPattern returns a pattern whose levels are at most most in absolute value.
func randomPattern(r *rand.Rand, most int) pattern {
	var p pattern
	for n := range p {
		p[n] = between(r, -most, most)
	}
	return p
}

// low, square and comb return patterns: P and S of the chapter's examples, and
// one with the order 6 alone.
func low() pattern { return pattern{0, 1, 1, 1, 1, 0, 0, -1, -1, -1, -1, 0} }

func square() pattern { return pattern{1, 1, 1, 1, 1, 1, -1, -1, -1, -1, -1, -1} }

func comb() pattern { return pattern{1, -1, 1, -1, 1, -1, 1, -1, 1, -1, 1, -1} }

// same returns limits that are all the same.
func same(n int) [7]int { return [7]int{n, n, n, n, n, n, n} }

// filter returns the filter of branches, each of which is L and C.
func filter(branches ...[2]int) harmonic.Filter {
	var f harmonic.Filter
	for _, b := range branches {
		f.Branches = append(f.Branches, harmonic.Branch{L: b[0], C: b[1]})
	}
	return f
}

// pair returns the filter F of the chapter's examples.
func pair() harmonic.Filter { return filter([2]int{1, 9}, [2]int{1, 36}) }

// randomFilter returns a filter. Many are tuned to an order, and many of them
// have a resonance.
func randomFilter(r *rand.Rand) harmonic.Filter {
	var f harmonic.Filter
	for range between(r, 1, 3) {
		b := harmonic.Branch{L: between(r, 0, 50), C: between(r, 0, 2000)}
		switch r.Intn(4) {
		case 0:
			b = harmonic.Branch{L: between(r, 0, 3), C: between(r, 1, 60)}
		case 1:
			h := between(r, 1, 12)
			b.L = between(r, 1, 13)
			b.C = min(h*h*b.L, 2000)
		case 2:
			b.C++
			b.C = min(b.C, 2000)
		}
		if b != (harmonic.Branch{}) {
			f.Branches = append(f.Branches, b)
		}
	}
	if len(f.Branches) == 0 {
		return pair()
	}
	return f
}

// badFilter is a filter that is none.
type badFilter struct {
	f harmonic.Filter
	e api.Errno
}

// badFilters returns filters with each error, most of them with later errors, too.
func badFilters() []badFilter {
	l := []badFilter{
		{filter(), api.ErrEmpty}, {harmonic.Filter{Branches: []harmonic.Branch{}}, api.ErrEmpty},
		{harmonic.Filter{Branches: make([]harmonic.Branch, 4)}, api.ErrMany}, {filter([2]int{1, 9}, [2]int{1, 9}, [2]int{1, 9}, [2]int{1, 9}), api.ErrMany}, {harmonic.Filter{Branches: make([]harmonic.Branch, 1000)}, api.ErrMany}, {filter([2]int{51, 9}, [2]int{}, [2]int{}, [2]int{}), api.ErrMany},
		{filter([2]int{0, 0}), api.ErrZero}, {filter([2]int{1, 9}, [2]int{0, 0}), api.ErrZero}, {filter([2]int{1, 9}, [2]int{1, 9}, [2]int{0, 0}), api.ErrZero}, {filter([2]int{0, 0}, [2]int{51, 9}), api.ErrZero}, {filter([2]int{51, 9}, [2]int{0, 0}), api.ErrRange},
	}
	for _, n := range beyond(0, 50) {
		l = append(l, badFilter{filter([2]int{n, 9}), api.ErrRange}, badFilter{filter([2]int{1, 9}, [2]int{1, 9}, [2]int{n, 0}), api.ErrRange})
	}
	for _, n := range beyond(0, 2000) {
		l = append(l, badFilter{filter([2]int{0, n}), api.ErrRange}, badFilter{filter([2]int{50, n}), api.ErrRange}, badFilter{filter([2]int{1, 9}, [2]int{0, n}, [2]int{}), api.ErrRange})
	}
	return l
}

// isFilter fails a test if a filter is not the expected one.
func isFilter(t *testing.T, what string, got, want harmonic.Filter) {
	t.Helper()
	isList(t, what, got.Branches, want.Branches)
}

// susceptanceOf returns the susceptance of a filter at an order, or nil if the
// filter is tuned to it.
func susceptanceOf(f harmonic.Filter, h int) *big.Rat {
	sum := new(big.Rat)
	for _, b := range f.Branches {
		below := b.C - h*h*b.L
		if below == 0 {
			return nil
		}
		sum.Add(sum, new(big.Rat).SetFrac(big.NewInt(int64(h)), big.NewInt(int64(below))))
	}
	return sum
}

func g(re, im int) api.Gauss { return api.Gauss{Re: re, Im: im} }

// box returns the polygon T of the chapter's examples, all the greatest polygon.
func box() []api.Gauss { return []api.Gauss{g(0, -1), g(2, -1), g(2, 0), g(0, 0)} }

func all() []api.Gauss {
	return []api.Gauss{g(-1000, -1000), g(1000, -1000), g(1000, 1000), g(-1000, 1000)}
}

// cross returns the cross product of b - a and c - a.
func cross(a, b, c api.Gauss) int {
	return (b.Re-a.Re)*(c.Im-a.Im) - (b.Im-a.Im)*(c.Re-a.Re)
}

// hull returns the corners of the least convex set with some points, to the left.
func hull(points []api.Gauss) []api.Gauss {
	l := slices.Clone(points)
	slices.SortFunc(l, func(a, b api.Gauss) int {
		if a.Re != b.Re {
			return a.Re - b.Re
		}
		return a.Im - b.Im
	})
	l = slices.Compact(l)
	half := func(l []api.Gauss) []api.Gauss {
		var side []api.Gauss
		for _, p := range l {
			for len(side) > 1 && cross(side[len(side)-2], side[len(side)-1], p) <= 0 {
				side = side[:len(side)-1]
			}
			side = append(side, p)
		}
		return side[:len(side)-1]
	}
	if len(l) < 2 {
		return l
	}
	first := half(l)
	slices.Reverse(l)
	return append(first, half(l)...)
}

// randomPolygon returns a polygon whose parts are at most most in absolute value.
func randomPolygon(r *rand.Rand, most int) []api.Gauss {
	for {
		points := make([]api.Gauss, between(r, 3, 12))
		for i := range points {
			points[i] = g(between(r, -most, most), between(r, -most, most))
		}
		if l := hull(points); len(l) >= 3 && len(l) <= 8 {
			k := r.Intn(len(l))
			return append(slices.Clone(l[k:]), l[:k]...)
		}
	}
}

// badPolygon is corners that are no polygon.
type badPolygon struct {
	l []api.Gauss
	e api.Errno
}

// badPolygons returns corners with each error, most of them with later errors, too.
func badPolygons() []badPolygon {
	l := []badPolygon{
		{nil, api.ErrShort}, {[]api.Gauss{}, api.ErrShort}, {box()[:1], api.ErrShort}, {box()[:2], api.ErrShort}, {[]api.Gauss{g(1001, 0), g(0, 0)}, api.ErrShort},
		{make([]api.Gauss, 9), api.ErrMany}, {make([]api.Gauss, 1000), api.ErrMany}, {append(make([]api.Gauss, 8), g(1001, 0)), api.ErrMany},
		{make([]api.Gauss, 3), api.ErrOrder}, {make([]api.Gauss, 8), api.ErrOrder},
		{[]api.Gauss{g(0, 0), g(0, 1), g(1, 0)}, api.ErrOrder}, {[]api.Gauss{g(0, 0), g(1, 0), g(2, 0)}, api.ErrOrder}, {[]api.Gauss{g(0, 0), g(1, 0), g(2, 0), g(0, 1)}, api.ErrOrder}, {[]api.Gauss{g(1, 0), g(2, 0), g(0, 1), g(0, 0)}, api.ErrOrder}, {[]api.Gauss{g(2, 0), g(0, 1), g(0, 0), g(1, 0)}, api.ErrOrder}, {[]api.Gauss{g(0, 1), g(0, 0), g(1, 0), g(2, 0)}, api.ErrOrder},
		{[]api.Gauss{g(0, 0), g(2, 0), g(0, 1), g(2, 1)}, api.ErrOrder}, {[]api.Gauss{g(0, 0), g(4, 0), g(1, 1), g(0, 4)}, api.ErrOrder}, {[]api.Gauss{g(0, 0), g(0, 0), g(1, 0), g(0, 1)}, api.ErrOrder}, {[]api.Gauss{g(0, 0), g(1, 0), g(0, 1), g(0, 0)}, api.ErrOrder},
		{star(), api.ErrOrder},
	}
	for _, n := range beyond(-1000, 1000) {
		for k := range 3 {
			first, second := []api.Gauss{g(0, 0), g(1, 0), g(0, 1)}, []api.Gauss{g(0, 0), g(0, 0), g(0, 0)}
			first[k].Re, second[k].Im = n, n
			l = append(l, badPolygon{first, api.ErrRange}, badPolygon{second, api.ErrRange})
		}
	}
	return l
}

// star returns corners that turn to the left at each of them, twice around.
func star() []api.Gauss {
	return []api.Gauss{g(10, 0), g(-8, 6), g(3, -9), g(3, 9), g(-8, -6)}
}
