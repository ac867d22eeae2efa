package phasor

import (
	"bipole/api"
	"bipole/check"
	"bipole/eisen"
	"bipole/list"
	"bipole/whole"
)

// powers is the powers of -i, from the power of 0 on.
var powers = [4]api.Gauss{{Re: 1, Im: 0}, {Re: 0, Im: -1}, {Re: -1, Im: 0}, {Re: 0, Im: 1}}

// turnedBy returns a function that turns numbers by some sixths each time.
func turnedBy(sixths int) func(api.Eisen, int) api.Eisen {
	return func(x api.Eisen, times int) api.Eisen {
		return turn(x, sixths*times)
	}
}

// divided returns numbers with each part divided by n; a rest is dropped.
func divided(l []api.Eisen, n int) []api.Eisen {
	result := make([]api.Eisen, len(l))
	for i, x := range l {
		result[i] = api.Eisen{A: x.A / n, B: x.B / n}
	}
	return result
}

// Spectrum returns the spectrum of six numbers.
func Spectrum(l [6]api.Eisen) ([6]api.Eisen, api.Errno) {
	if e := check.Each(l[:], checkPhase); e != api.OK {
		return [6]api.Eisen{}, e
	}
	return spectrum(l), api.OK
}

func spectrum(l [6]api.Eisen) [6]api.Eisen {
	return [6]api.Eisen(list.Transformed(l[:], turnedBy(-1), eisen.Sum))
}

// Steps returns the steps of a spectrum.
func Steps(s [6]api.Eisen) ([6]api.Eisen, api.Errno) {
	if e := check.Each(s[:], CheckEisen); e != api.OK {
		return [6]api.Eisen{}, e
	}
	l := [6]api.Eisen(divided(list.Transformed(s[:], turnedBy(1), eisen.Sum), 6))
	// Where a division left a rest, the steps have another spectrum.
	if check.Each(l[:], checkPhase) != api.OK || spectrum(l) != s {
		return [6]api.Eisen{}, api.ErrForm
	}
	return l, api.OK
}

// Four returns the transform of four samples.
func Four(l [4]float32) ([4]complex64, api.Errno) {
	if e := check.Each(l[:], CheckSample); e != api.OK {
		return [4]complex64{}, e
	}
	return four(l), api.OK
}

// four computes without any rounding: all parts are multiples of 1/16 with
// fewer bits than a float32 has.
func four(l [4]float32) [4]complex64 {
	var numbers [4]complex64
	for m, x := range l {
		numbers[m] = complex(x, 0)
	}
	return [4]complex64(list.Transformed(numbers[:], timesPower(1), plus))
}

// Unfour returns the samples of a panel.
func Unfour(p [4]complex64) ([4]float32, api.Errno) {
	if e := check.Each(p[:], checkEntry); e != api.OK {
		return [4]float32{}, e
	}
	var samples [4]float32
	for m, x := range list.Transformed(p[:], timesPower(-1), plus) {
		samples[m] = real(x) / 4
	}
	// Where a number was not real, the samples have another transform.
	if check.Each(samples[:], CheckSample) != api.OK || four(samples) != p {
		return [4]float32{}, api.ErrForm
	}
	return samples, api.OK
}

// checkEntry returns the first error of a number of a panel, or OK.
func checkEntry(x complex64) api.Errno {
	const most = 4 * api.MaxValue
	return check.First(checkFinite(real(x)), checkFinite(imag(x)), checkSixteenths(real(x), most), checkSixteenths(imag(x), most))
}

// timesPower returns a function that multiplies by a power of -i each time.
func timesPower(n int) func(complex64, int) complex64 {
	return func(x complex64, times int) complex64 {
		power := powers[whole.Remainder(n*times, 4)]
		return x * complex(float32(power.Re), float32(power.Im))
	}
}

func plus(a, b complex64) complex64 {
	return a + b
}
