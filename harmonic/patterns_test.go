package harmonic_test

import (
	"fmt"
	"math"
	"math/cmplx"
	"math/rand"
	"testing"

	"bipole/api"
	"bipole/harmonic"
)

// badPatterns returns patterns with one level, or more, out of its range.
func badPatterns() []pattern {
	var l []pattern
	for k := range 12 {
		for _, n := range beyond(-100, 100) {
			p := pattern{11: 100}
			p[k] = n
			l = append(l, p)
		}
	}
	return append(l, pattern{101, 101, 101, 101, 101, 101, 101, 101, 101, 101, 101, 101})
}

// P4.2
func TestSpectrum(t *testing.T) {
	for _, x := range []struct {
		p pattern
		s spectrum
	}{
		{pattern{}, spectrum{}},
		{pattern{5}, spectrum{z(5, 0, 0, 0), z(5, 0, 0, 0), z(5, 0, 0, 0), z(5, 0, 0, 0), z(5, 0, 0, 0), z(5, 0, 0, 0), z(5, 0, 0, 0), z(5, 0, 0, 0), z(5, 0, 0, 0), z(5, 0, 0, 0), z(5, 0, 0, 0), z(5, 0, 0, 0)}},
		{pattern{0, 1}, spectrum{z(1, 0, 0, 0), z(0, 0, -1, -1), z(0, -1, 0, 0), z(0, 0, -1, 0), z(-1, -1, 0, 0), z(0, 0, 0, 1), z(-1, 0, 0, 0), z(0, 0, 1, 1), z(0, 1, 0, 0), z(0, 0, 1, 0), z(1, 1, 0, 0), z(0, 0, 0, -1)}},
		{pattern{-100, -100, -100, -100, -100, -100, -100, -100, -100, -100, -100, -100}, spectrum{z(-1200, 0, 0, 0)}},
		{comb(), spectrum{6: z(12, 0, 0, 0)}},
		{pattern{100, 0, -100, 100, 0, -100, 100, 0, -100, 100, 0, -100}, spectrum{4: z(400, -400, 0, 0), 8: z(800, 400, 0, 0)}},
	} {
		s, e := harmonic.Spectrum(x.p)
		is(t, fmt.Sprint("the spectrum of ", x.p), s, x.s)
		is(t, fmt.Sprint("the spectrum of ", x.p), e, api.OK)
		p, e := harmonic.Back(x.s)
		is(t, fmt.Sprint("back to ", x.p), p, x.p)
		is(t, fmt.Sprint("back to ", x.p), e, api.OK)
	}
	s, _ := harmonic.Spectrum(low())
	is(t, "the order 1 of P", s[1], z(-2, -4, -4, -2))
	for _, h := range []int{0, 2, 3, 4, 6, 8, 9, 10} {
		is(t, fmt.Sprint("the order of P: ", h), s[h], harmonic.Cyclo{})
	}
	x, _ := harmonic.Strength(s[1])
	y, _ := harmonic.Strength(s[5])
	is(t, "the strengths of P", [2]harmonic.Root{x, y}, [2]harmonic.Root{{A: 24, B: 12}, {A: 24, B: -12}})
}

// P4.2: the definition, with levels from the whole of their range; in floats, too.
func TestSpectrumOfMany(t *testing.T) {
	r := rand.New(rand.NewSource(421))
	for n := range 500 {
		p := randomPattern(r, []int{1, 10, 100}[n%3])
		s, e := harmonic.Spectrum(p)
		is(t, fmt.Sprint("the spectrum of ", p), s, spectrumOf(p))
		is(t, fmt.Sprint("the spectrum of ", p), e, api.OK)
		for h, x := range s {
			w := complex(-0.5, math.Sqrt(3)/2)
			value := complex(float64(x.Re.A), float64(x.Im.A)) + w*complex(float64(x.Re.B), float64(x.Im.B))
			sum := complex128(0)
			for k, level := range p {
				sum += complex(float64(level), 0) * cmplx.Rect(1, -float64(h*k)*math.Pi/6)
			}
			if cmplx.Abs(value-sum) > 1e-9 {
				t.Errorf("the order %d of %v: got %v, want %v", h, p, value, sum)
			}
		}
		back, e := harmonic.Back(s)
		is(t, fmt.Sprint("back to ", p), back, p)
		is(t, fmt.Sprint("back to ", p), e, api.OK)
	}
}

// P4.2
func TestErrorsOfPatterns(t *testing.T) {
	for _, p := range badPatterns() {
		what := fmt.Sprint(p)
		s, e := harmonic.Spectrum(p)
		is(t, "the spectrum of "+what, s, spectrum{})
		is(t, "the spectrum of "+what, e, api.ErrRange)
		q, e := harmonic.Quarters(p)
		is(t, "the quarters of "+what, q, [4]complex128{})
		is(t, "the quarters of "+what, e, api.ErrRange)
		l, e := harmonic.Eliminated(p)
		isList(t, "the eliminated orders of "+what, l, nil)
		is(t, "the eliminated orders of "+what, e, api.ErrRange)
		d, e := harmonic.Delayed(p, 1)
		is(t, "delayed: "+what, d, pattern{})
		is(t, "delayed: "+what, e, api.ErrRange)
		f, e := harmonic.Record(p, 1)
		isList(t, "the record of "+what, f, nil)
		is(t, "the record of "+what, e, api.ErrRange)
		x, e := harmonic.Excess(p, same(0))
		isList(t, "the excess of "+what, x, nil)
		is(t, "the excess of "+what, e, api.ErrRange)
	}
}

// notBack fails a test if a spectrum does not have an error.
func notBack(t *testing.T, s spectrum, want api.Errno) {
	t.Helper()
	p, e := harmonic.Back(s)
	is(t, fmt.Sprint("back from ", s), p, pattern{})
	is(t, fmt.Sprint("back from ", s), e, want)
}

// P4.2: the range is asked for before the form.
func TestBackOfGreatNumbers(t *testing.T) {
	for h := range 12 {
		for _, bad := range outside(part, 0) {
			s := spectrumOf(low())
			s[h] = bad
			notBack(t, s, api.ErrRange)
			s[(h+1)%12].Re.A++
			notBack(t, s, api.ErrRange)
		}
		for _, x := range []harmonic.Cyclo{z(part, 0, 0, 0), z(0, -part, 0, 0), z(0, 0, part, part), z(-part, part, -part, part)} {
			s := spectrum{}
			s[h] = x
			notBack(t, s, api.ErrForm)
		}
	}
}

// P4.2: not all lists of numbers are spectra.
func TestBackOfNoSpectrum(t *testing.T) {
	for h := range 12 {
		for n := 1; n <= 24; n++ {
			for i, x := range []harmonic.Cyclo{z(n, 0, 0, 0), z(-n, 0, 0, 0), z(0, n, 0, 0), z(0, 0, n, 0), z(0, 0, 0, -n)} {
				if s := spectrumOf(low()); h%6 > 0 || n%12 > 0 || i > 1 {
					s[h].Re = api.Eisen{A: s[h].Re.A + x.Re.A, B: s[h].Re.B + x.Re.B}
					s[h].Im = api.Eisen{A: s[h].Im.A + x.Im.A, B: s[h].Im.B + x.Im.B}
					notBack(t, s, api.ErrForm)
				}
			}
		}
	}
	for k := range 12 { // a level is too great, or not real
		for _, n := range []int{101, -101, 1000, 5000} {
			p := low()
			p[k] = n
			notBack(t, spectrumOf(p), api.ErrForm)
		}
		for _, unit := range []harmonic.Cyclo{z(0, 0, 1, 0), z(0, 1, 0, 0), z(1, 0, 1, 0), z(0, 0, 0, 12)} {
			p := pattern{}
			p[k] = 12
			s := spectrumOf(p)
			for h := range s {
				s[h] = ringOf(s[h]).times(ringOf(unit)).number()
			}
			notBack(t, s, api.ErrForm)
		}
	}
}

// P4.2: two orders together are a pattern with halves of levels, or a whole one.
func TestBackOfTwoOrders(t *testing.T) {
	s := spectrum{3: z(6, 0, 0, 0), 9: z(6, 0, 0, 0)}
	p, e := harmonic.Back(s)
	is(t, "back from 6 and 6", p, pattern{1, 0, -1, 0, 1, 0, -1, 0, 1, 0, -1, 0})
	is(t, "back from 6 and 6", e, api.OK)
	notBack(t, spectrum{3: z(3, 0, 0, 0), 9: z(3, 0, 0, 0)}, api.ErrForm)
	notBack(t, spectrum{3: z(606, 0, 0, 0), 9: z(606, 0, 0, 0)}, api.ErrForm)
	notBack(t, spectrum{3: z(6, 0, 0, 0), 9: z(-6, 0, 0, 0)}, api.ErrForm)
	notBack(t, spectrum{0: z(6, 0, 0, 0)}, api.ErrForm)
	p, e = harmonic.Back(spectrum{0: z(1200, 0, 0, 0)})
	is(t, "back from the greatest order 0", p, pattern{100, 100, 100, 100, 100, 100, 100, 100, 100, 100, 100, 100})
	is(t, "back from the greatest order 0", e, api.OK)
	notBack(t, spectrum{0: z(1212, 0, 0, 0)}, api.ErrForm)
}

// P4.2
func TestQuarters(t *testing.T) {
	for p, want := range map[pattern][4]complex128{
		{}:                                      {},
		square():                                {0, 2 - 2i, 0, 2 + 2i},
		comb():                                  {0, 0, 12, 0},
		low():                                   {},
		{5}:                                     {5, 5, 5, 5},
		{0, 3}:                                  {3, -3i, -3, 3i},
		{1, 2, 3, 4, 5, 6, 7, 8, 9, 10, 11, 12}: {78, -6 + 6i, -6, -6 - 6i},
		{100, 100, 100, 100, 100, 100, 100, 100, 100, 100, 100, 100}: {1200},
	} {
		quarters, e := harmonic.Quarters(p)
		is(t, fmt.Sprint("the quarters of ", p), quarters, want)
		is(t, fmt.Sprint("the quarters of ", p), e, api.OK)
	}
	r := rand.New(rand.NewSource(422))
	for range 500 {
		p := randomPattern(r, 100)
		var want [4]complex128
		for k := range want {
			turn := complex128(1)
			for _, level := range p {
				want[k] += complex(float64(level), 0) * turn
				turn *= []complex128{1, -1i, -1, 1i}[k]
			}
		}
		quarters, e := harmonic.Quarters(p)
		is(t, fmt.Sprint("the quarters of ", p), quarters, want)
		is(t, fmt.Sprint("the quarters of ", p), e, api.OK)
	}
}

// P4.2
func TestEliminated(t *testing.T) {
	for _, x := range []struct {
		p pattern
		l []int
	}{
		{low(), []int{2, 3, 4, 6}}, {square(), []int{2, 4, 6}}, {pattern{}, []int{1, 2, 3, 4, 5, 6}}, {pattern{5}, nil}, {comb(), []int{1, 2, 3, 4, 5}},
		{pattern{7, 7, 7, 7, 7, 7, 7, 7, 7, 7, 7, 7}, []int{1, 2, 3, 4, 5, 6}}, {pattern{1, 0, 0, 0, 0, 0, 1}, []int{1, 3, 5}}, {pattern{1, 0, 0, 0, 0, 0, -1}, []int{2, 4, 6}}, {pattern{1, 0, 0, 1}, []int{2, 6}}, {pattern{1, 0, 0, 0, 1, 0, 0, 0, 1}, []int{1, 2, 4, 5}},
		{pattern{1, 1}, []int{6}}, {pattern{1, 0, 1}, []int{3}}, {pattern{1, 0, -1}, []int{6}}, {pattern{1, 0, -1, 0, 1, 0, -1, 0, 1, 0, -1}, []int{1, 2, 4, 5, 6}}, {pattern{1, -1}, nil}, {pattern{-1, 2, -1, 2}, []int{3}},
	} {
		l, e := harmonic.Eliminated(x.p)
		isList(t, fmt.Sprint("eliminated of ", x.p), l, x.l)
		is(t, fmt.Sprint("eliminated of ", x.p), e, api.OK)
	}
	r := rand.New(rand.NewSource(423))
	for range 2000 {
		p := randomPattern(r, 1)
		var want []int
		for h, x := range spectrumOf(p) {
			if h >= 1 && h <= 6 && x == z(0, 0, 0, 0) {
				want = append(want, h)
			}
		}
		l, e := harmonic.Eliminated(p)
		isList(t, fmt.Sprint("eliminated of ", p), l, want)
		is(t, fmt.Sprint("eliminated of ", p), e, api.OK)
	}
}

// P4.2
func TestDelayed(t *testing.T) {
	p := pattern{1, 2, 3, 4, 5, 6, 7, 8, 9, 10, 11, 100}
	counts := []int{100000, -100000, 99999, -99999}
	for n := -40; n <= 40; n++ {
		counts = append(counts, n)
	}
	for _, n := range counts {
		want := pattern{}
		for k, level := range p {
			want[((k+n)%12+12)%12] = level
		}
		d, e := harmonic.Delayed(p, n)
		is(t, fmt.Sprint("delayed by ", n), d, want)
		is(t, fmt.Sprint("delayed by ", n), e, api.OK)
	}
	d, _ := harmonic.Delayed(p, 1)
	is(t, "delayed by 1", d, pattern{100, 1, 2, 3, 4, 5, 6, 7, 8, 9, 10, 11})
	for _, n := range beyond(-100000, 100000) {
		d, e := harmonic.Delayed(p, n)
		is(t, fmt.Sprint("delayed by ", n), d, pattern{})
		is(t, fmt.Sprint("delayed by ", n), e, api.ErrRange)
	}
}
