package flow

import (
	"bipole/api"
	"bipole/check"
	"bipole/list"
	"bipole/whole"
)

// CheckSupport returns the first error of a support, or OK.
func CheckSupport(x Support) api.Errno {
	return check.First(
		check.Range(x.Dead, 0, MaxDeviation),
		check.Range(x.Gain, 0, MaxFactor),
		check.Range(x.Reserve, 0, MaxFactor))
}

func checkDeviation(deviation int) api.Errno {
	return check.Range(deviation, -MaxDeviation, MaxDeviation)
}

// Supported returns the power that a support adds at a deviation.
func Supported(x Support, deviation int) (int, api.Errno) {
	if e := check.First(CheckSupport(x), checkDeviation(deviation)); e != api.OK {
		return 0, e
	}
	return x.added(deviation), api.OK
}

func (x Support) added(deviation int) int {
	beyond := max(whole.Absolute(deviation)-x.Dead, 0)
	power := min(x.Gain*beyond/Whole, x.Reserve)
	if deviation > 0 {
		return -power
	}
	return power
}

// Responses returns the powers that a support adds at several deviations.
func Responses(x Support, l []int) ([]int, api.Errno) {
	if e := check.First(CheckSupport(x), check.List(l, api.MaxList, checkDeviation)); e != api.OK {
		return nil, e
	}
	return list.Mapped(l, x.added), api.OK
}
