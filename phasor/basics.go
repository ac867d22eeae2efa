package phasor

import (
	"math"

	"bipole/api"
	"bipole/check"
	"bipole/whole"
)

// The remainders by which a permutation is drawn.
const (
	drawFactor  = 950706376
	drawModulus = 2147483647
)

// IsName reports whether a string is a name.
func IsName(s string) bool {
	if len(s) < 1 || len(s) > api.MaxName {
		return false
	}
	for i, r := range s {
		if !isLetter(r) && (i == 0 || !isDigit(r) && r != '_') {
			return false
		}
	}
	return true
}

func isLetter(r rune) bool {
	return r >= 'A' && r <= 'Z' || r >= 'a' && r <= 'z'
}

func isDigit(r rune) bool {
	return r >= '0' && r <= '9'
}

// Draw returns the permutation of n elements by a key.
func Draw(key, n int) ([]int, api.Errno) {
	if e := check.First(check.Range(key, 1, drawModulus-1), check.Range(n, 0, api.MaxList)); e != api.OK {
		return nil, e
	}
	l := make([]int, n)
	for i := range l {
		l[i] = i
	}
	x := key
	for i := n - 1; i >= 1; i-- {
		x = drawFactor * x % drawModulus
		j := x % (i + 1)
		l[i], l[j] = l[j], l[i]
	}
	return l, api.OK
}

// CheckRatio returns the error of a ratio, or OK.
func CheckRatio(x api.Ratio) api.Errno {
	if e := check.First(check.Range(x.Num, -api.MaxNumber, api.MaxNumber), check.Range(x.Den, 1, api.MaxNumber)); e != api.OK {
		return e
	}
	if whole.Divisor(x.Num, x.Den) > 1 {
		return api.ErrForm
	}
	return api.OK
}

// CheckSample returns the error of a sample, or OK.
func CheckSample(x float32) api.Errno {
	return check.First(checkFinite(x), checkSixteenths(x, api.MaxValue))
}

// checkFinite returns ErrForm for NaN and for both infinities.
func checkFinite(x float32) api.Errno {
	if wide := float64(x); math.IsNaN(wide) || math.IsInf(wide, 0) {
		return api.ErrForm
	}
	return api.OK
}

// checkSixteenths returns ErrRange for a number that is not a multiple of 1/16
// from -most to most.
func checkSixteenths(x float32, most float64) api.Errno {
	wide := float64(x)
	if wide < -most || wide > most || math.Trunc(16*wide) != 16*wide {
		return api.ErrRange
	}
	return api.OK
}
