package phasor

import (
	"bipole/api"
	"bipole/check"
	"bipole/eisen"
	"bipole/list"
)

// third is the sixths by which w turns a number.
const third = 2

// CheckPhases returns the error of phases, or OK.
func CheckPhases(p Phases) api.Errno {
	return check.Each(p[:], checkPhase)
}

func checkPhase(x api.Eisen) api.Errno {
	return checkParts(x, MaxPhase)
}

// Components returns the components of phases.
func Components(p Phases) ([3]api.Eisen, api.Errno) {
	if e := CheckPhases(p); e != api.OK {
		return [3]api.Eisen{}, e
	}
	return components(p), api.OK
}

func components(p Phases) [3]api.Eisen {
	return [3]api.Eisen(list.Transformed(p[:], turnedBy(third), eisen.Sum))
}

// Restored returns the phases of components.
func Restored(c [3]api.Eisen) (Phases, api.Errno) {
	if e := check.Each(c[:], CheckEisen); e != api.OK {
		return Phases{}, e
	}
	p := Phases(divided(list.Transformed(c[:], turnedBy(-third), eisen.Sum), 3))
	// Where a division left a rest, the phases have other components.
	if CheckPhases(p) != api.OK || components(p) != c {
		return Phases{}, api.ErrForm
	}
	return p, api.OK
}

// Balanced reports whether phases are balanced.
func Balanced(p Phases) (bool, api.Errno) {
	c, e := Components(p)
	if e != api.OK {
		return false, e
	}
	return c == [3]api.Eisen{1: c[1]}, api.OK
}

// Power returns the power of voltages and currents, and twice its real part.
func Power(u, i Phases) (api.Eisen, int, api.Errno) {
	if e := check.First(CheckPhases(u), CheckPhases(i)); e != api.OK {
		return api.Eisen{}, 0, e
	}
	power := api.Eisen{}
	for phase, voltage := range u {
		power = eisen.Sum(power, eisen.Product(voltage, eisen.Conjugate(i[phase])))
	}
	return power, 2*power.A - power.B, api.OK
}
