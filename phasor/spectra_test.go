package phasor_test

import (
	"fmt"
	"math"
	"math/rand"
	"testing"

	"bipole/api"
	"bipole/phasor"
)

type six = [6]api.Eisen

// spectrumOf is the definition of the chapter, written once more.
func spectrumOf(l six) six {
	var s six
	for k := range s {
		for m := range l {
			s[k] = plus(s[k], sixth(l[m], -k*m))
		}
	}
	return s
}

// P1.4
func TestSpectrum(t *testing.T) {
	for _, x := range []struct{ l, s six }{
		{six{}, six{}},
		{six{z(1, 0)}, six{z(1, 0), z(1, 0), z(1, 0), z(1, 0), z(1, 0), z(1, 0)}},
		{six{z(1, 0), z(1, 1), z(0, 1), z(-1, 0), z(-1, -1), z(0, -1)}, six{z(0, 0), z(6, 0)}},
		{six{z(0, 0), z(1, 0)}, six{z(1, 0), z(0, -1), z(-1, -1), z(-1, 0), z(0, 1), z(1, 1)}},
		{six{z(1, 0), z(1, 0), z(1, 0), z(1, 0), z(1, 0), z(1, 0)}, six{z(6, 0)}},
		{six{z(1, 0), z(0, -1), z(-1, -1), z(-1, 0), z(0, 1), z(1, 1)}, six{5: z(6, 0)}},
		{six{z(phase, -phase), z(phase, -phase), z(phase, -phase), z(phase, -phase), z(phase, -phase), z(phase, -phase)}, six{z(6*phase, -6*phase)}},
	} {
		s, e := phasor.Spectrum(x.l)
		same(t, fmt.Sprint("spectrum of ", x.l), s, x.s)
		same(t, "error", e, api.OK)
		l, e := phasor.Steps(x.s)
		same(t, fmt.Sprint("steps of ", x.s), l, x.l)
		same(t, "error", e, api.OK)
	}
}

// P1.4: the definition, with numbers from the whole of their range.
func TestSpectrumOfMany(t *testing.T) {
	r := rand.New(rand.NewSource(14))
	for n := range 300 {
		l := six(numbers(r, 6, []int{1, 100, phase}[n%3]))
		if n%7 == 0 { // the corners have the largest results
			for i := range l {
				l[i] = z(phase*(2*r.Intn(2)-1), phase*(2*r.Intn(2)-1))
			}
		}
		s, e := phasor.Spectrum(l)
		same(t, fmt.Sprint("spectrum of ", l), s, spectrumOf(l))
		same(t, "error", e, api.OK)
		back, e := phasor.Steps(s)
		same(t, fmt.Sprint("steps of ", s), back, l)
		same(t, "error", e, api.OK)
	}
}

// P1.4
func TestSpectrumErrors(t *testing.T) {
	for i := range 6 {
		for _, n := range beyond(phase) {
			for _, x := range []api.Eisen{z(n, 0), z(0, n)} {
				var l six
				l[i] = x
				s, e := phasor.Spectrum(l)
				same(t, "spectrum", s, six{})
				same(t, "error of the spectrum", e, api.ErrRange)
			}
		}
		for _, n := range beyond(most) {
			for _, x := range []api.Eisen{z(n, 0), z(0, n)} {
				s := six{z(1, 0), z(1, 0), z(1, 0), z(1, 0), z(1, 0), z(1, 0)}
				s[i] = x
				l, e := phasor.Steps(s)
				same(t, "steps", l, six{})
				same(t, "error of the steps", e, api.ErrRange)
			}
		}
	}
}

// P1.4: spectra of numbers that are only just out of their range, and of none.
func TestStepsErrors(t *testing.T) {
	refused := func(s six) {
		t.Helper()
		l, e := phasor.Steps(s)
		same(t, fmt.Sprint("steps of ", s), l, six{})
		same(t, fmt.Sprint("error of ", s), e, api.ErrForm)
	}
	for i := range 6 {
		for _, x := range []api.Eisen{z(phase+1, 0), z(-phase-1, 0), z(0, phase+1), z(0, -phase-1)} {
			var l six
			l[i] = x
			refused(spectrumOf(l))
		}
		var s six
		for _, n := range []int{1, 2, 3, -1, 5, 7, 8} {
			s[i] = z(n, 0)
			refused(s)
			s[i] = z(0, n)
			refused(s)
			s[i] = z(6, n)
			refused(s)
		}
		s[i] = z(most, -most)
		refused(s)
		s = spectrumOf(six{z(1, 2), z(-3, 4), z(5, 6), z(0, -1), z(2, 2), z(9, 0)})
		s[i] = plus(s[i], z(3, 0))
		refused(s)
	}
	refused(six{z(most, most), z(most, most), z(most, most), z(most, most), z(most, most), z(most, most)})
}

// fourCases are samples with their transforms.
func fourCases() map[[4]float32][4]complex64 {
	return map[[4]float32][4]complex64{
		{}:                           {},
		{1, 2, 3, 4}:                 {10, complex(-2, 2), -2, complex(-2, -2)},
		{1, 0, 0, 0}:                 {1, 1, 1, 1},
		{0, 1, 0, 0}:                 {1, complex(0, -1), -1, complex(0, 1)},
		{0, 0, 1, 0}:                 {1, -1, 1, -1},
		{0, 0, 0, 1}:                 {1, complex(0, 1), -1, complex(0, -1)},
		{0.25, 0.25, 0.25, 0.25}:     {1, 0, 0, 0},
		{1024, 1024, 1024, 1024}:     {4096, 0, 0, 0},
		{-1024, -1024, -1024, -1024}: {-4096, 0, 0, 0},
		{1024, -1024, 1024, -1024}:   {0, 0, 4096, 0},
		{1024, 1024, -1024, -1024}:   {0, complex(2048, -2048), 0, complex(2048, 2048)},
		{0.0625, 0, 0, -1023.9375}:   {-1023.875, complex(0.0625, -1023.9375), 1024, complex(0.0625, 1023.9375)},
	}
}

// P1.4
func TestFour(t *testing.T) {
	for l, p := range fourCases() {
		got, e := phasor.Four(l)
		same(t, fmt.Sprint("transform of ", l), got, p)
		same(t, "error", e, api.OK)
		back, e := phasor.Unfour(p)
		same(t, fmt.Sprint("samples of ", p), back, l)
		same(t, "error", e, api.OK)
	}
	p, e := phasor.Four([4]float32{negZero, negZero, negZero, negZero})
	same(t, "transform of -0", p, [4]complex64{})
	same(t, "error of -0", e, api.OK)
	l, e := phasor.Unfour([4]complex64{complex(negZero, negZero), complex(0, negZero), complex(negZero, 0)})
	same(t, "samples of -0", l, [4]float32{})
	same(t, "error of -0", e, api.OK)
}

// P1.4
func TestFourErrors(t *testing.T) {
	refused := func(l [4]float32, want api.Errno) {
		t.Helper()
		p, e := phasor.Four(l)
		same(t, fmt.Sprint("transform of ", l), p, [4]complex64{})
		same(t, fmt.Sprint("error of ", l), e, want)
	}
	for i := range 4 {
		for x, e := range sampleCases() {
			if e != api.OK {
				l := [4]float32{1, 1, 1, 1}
				l[i] = x
				refused(l, e)
			}
		}
		var l [4]float32
		l[i] = nan
		refused(l, api.ErrForm)
	}
	refused([4]float32{0.03125, nan, 0, 0}, api.ErrRange)
	refused([4]float32{0, inf, 2000, 0}, api.ErrForm)
	refused([4]float32{0, 0, -2000, -inf}, api.ErrRange)
}

// P1.4
func TestUnfourErrors(t *testing.T) {
	refused := func(p [4]complex64, want api.Errno) {
		t.Helper()
		l, e := phasor.Unfour(p)
		same(t, fmt.Sprint("samples of ", p), l, [4]float32{})
		same(t, fmt.Sprint("error of ", p), e, want)
	}
	for i := range 4 {
		for _, x := range []float32{4096.0625, -4096.0625, 5000, 0.03125, -0.1, 4095.96875, math.MaxFloat32, math.SmallestNonzeroFloat32, math.Nextafter32(4096, 5000)} {
			var p [4]complex64
			p[i] = complex(x, 0)
			refused(p, api.ErrRange)
			p[i] = complex(0, x)
			refused(p, api.ErrRange)
			for _, y := range []float32{nan, inf, -inf} {
				p[i] = complex(x, y)
				refused(p, api.ErrForm)
				p[i] = complex(y, x)
				refused(p, api.ErrForm)
				p[i], p[(i+1)%4] = complex(0, x), complex(y, 0)
				refused(p, []api.Errno{api.ErrRange, api.ErrRange, api.ErrRange, api.ErrForm}[i])
				p[(i+1)%4] = 0
			}
		}
	}
	for _, p := range [][4]complex64{
		{0, 1, 0, 0}, {0, 0, 0, 1}, {complex(0, 1), 0, 0, 0}, {0, 0, complex(0, 1), 0}, {complex(0, 4), complex(0, 4), complex(0, 4), complex(0, 4)},
		{10, complex(-2, -2), -2, complex(-2, -2)}, {10, complex(-2, 2), -2, complex(-2, 2)}, {10, complex(-2, 2), complex(-2, 0.0625), complex(-2, -2)},
		{0.0625, 0, 0, 0}, {0.125, 0, 0, 0}, {0.1875, 0, 0, 0}, {0.25, 0, 0.0625, 0}, {0, 0.0625, 0, 0.0625}, {0, complex(0.125, 0.0625), 0, complex(0.125, -0.0625)},
		{4096, 0, 0.25, 0}, {4096, 4096, 4096, 4096}, {-4096, 0, -0.25, 0}, {4096, 0.125, 0, 0.125}, {4096, complex(0, 0.125), 0, complex(0, -0.125)}, {0, 4096, 0, 4096},
	} {
		refused(p, api.ErrForm)
	}
}

// P1.4: the most that the parts of a panel may be.
func TestUnfourLimits(t *testing.T) {
	l, e := phasor.Unfour([4]complex64{0.25, complex(0, 0), -4095.75, complex(0, 0)})
	same(t, "samples", l, [4]float32{-1023.875, 1024, -1023.875, 1024})
	same(t, "error", e, api.OK)
	_, e = phasor.Unfour([4]complex64{0, complex(4096, -4096), 0, complex(4096, 4096)})
	same(t, "error of the range's ends", e, api.ErrForm)
}
