package flow

import (
	"bipole/api"
	"bipole/check"
	"bipole/list"
	"bipole/whole"
)

// parts returns the fixed, the linear and the square part of losses.
func (x Losses) parts() [3]int {
	return [3]int{x.Fixed, x.Linear, x.Square}
}

// CheckLosses returns the first error of losses, or OK.
func CheckLosses(x Losses) api.Errno {
	within := x.parts()
	for i, part := range within {
		within[i] = min(max(part, 0), MaxFactor)
	}
	if within != x.parts() {
		return api.ErrRange
	}
	return api.OK
}

// checkPower returns ErrRange for a power of which nothing is delivered.
func checkPower(power int) api.Errno {
	return check.Range(power, 0, MaxPower)
}

// Loss returns the loss at a power.
func Loss(x Losses, power int) (api.Interval, api.Errno) {
	if e := check.First(CheckLosses(x), checkPower(power)); e != api.OK {
		return api.Interval{}, e
	}
	return loss(x, power), api.OK
}

func loss(x Losses, power int) api.Interval {
	if power == 0 {
		return api.Interval{}
	}
	const squared = Whole * Whole
	factors := [3]int{squared, Whole * power, power * power}
	lost := 0 // in parts of which a power has squared
	for i, part := range x.parts() {
		lost += part * factors[i]
	}
	return api.Interval{Low: lost / squared, High: whole.RoundedUp(lost, squared)}
}

// Delivered returns what is delivered of a power.
func Delivered(x Losses, power int) (api.Interval, api.Errno) {
	if e := check.First(CheckLosses(x), checkPower(power)); e != api.OK {
		return api.Interval{}, e
	}
	return delivered(x, power), api.OK
}

func delivered(x Losses, power int) api.Interval {
	lost := loss(x, power)
	return api.Interval{Low: max(power-lost.High, 0), High: max(power-lost.Low, 0)}
}

// Needed returns the least power of which some power is delivered.
func Needed(x Losses, power int) (int, api.Errno) {
	if e := check.First(CheckLosses(x), checkPower(power)); e != api.OK {
		return 0, e
	}
	for needed := range MaxPower + 1 {
		if delivered(x, needed).Low >= power {
			return needed, api.OK
		}
	}
	return 0, api.ErrNone
}

// Balance returns what is delivered of several powers together.
func Balance(x Losses, powers []int) (api.Interval, api.Errno) {
	if e := check.First(CheckLosses(x), check.List(powers, api.MaxList, checkPower)); e != api.OK {
		return api.Interval{}, e
	}
	var balance api.Interval
	for _, each := range list.Mapped(powers, func(power int) api.Interval { return delivered(x, power) }) {
		balance.Low += each.Low
		balance.High += each.High
	}
	return balance, api.OK
}
