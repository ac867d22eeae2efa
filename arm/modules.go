package arm

import (
	"bipole/api"
	"bipole/check"
	"bipole/list"
	"bipole/phasor"
)

// Bypass returns an arm in which a module is bypassed.
func Bypass(a Arm, name string) (Arm, api.Errno) {
	i, e := find(a, name)
	if e != api.OK {
		return Arm{}, e
	}
	if a.Modules[i].Bypassed {
		return Arm{}, api.ErrTwice
	}
	bypassed := copied(a)
	bypassed.Modules[i].On = false
	bypassed.Modules[i].Bypassed = true
	return bypassed, api.OK
}

// Replaced returns an arm in which a bypassed module was replaced.
func Replaced(a Arm, name string, charge int) (Arm, api.Errno) {
	i, e := find(a, name)
	if e != api.OK {
		return Arm{}, e
	}
	if !a.Modules[i].Bypassed {
		return Arm{}, api.ErrState
	}
	if e := check.First(checkCharge(charge), checkInside(charge, a.Band)); e != api.OK {
		return Arm{}, e
	}
	replaced := copied(a)
	replaced.Modules[i] = Module{Name: name, Charge: charge}
	return replaced, api.OK
}

// find returns the index of the module with a name, after the arm is examined.
func find(a Arm, name string) (int, api.Errno) {
	if e := CheckArm(a); e != api.OK {
		return 0, e
	}
	i := indexOf(name, a.Modules)
	if i < 0 {
		return 0, api.ErrUnknown
	}
	return i, api.OK
}

// Reserve returns how many modules may fail.
func Reserve(a Arm, n int) (int, api.Errno) {
	if e := check.First(CheckArm(a), checkNumber(n)); e != api.OK {
		return 0, e
	}
	usable := len(usableIndices(a))
	if usable < n {
		return 0, api.ErrInfeasible
	}
	return usable - n, api.OK
}

// Levels returns the numbers of modules that follow a wave.
func Levels(a Arm, l []float32, amplitude int) ([]int, api.Errno) {
	e := check.First(
		CheckArm(a),
		check.List(l, MaxWave, phasor.CheckSample),
		check.Range(amplitude, 1, MaxCharge))
	if e != api.OK {
		return nil, e
	}
	usable := len(usableIndices(a))
	return list.Mapped(l, func(x float32) int {
		return level(usable, int(16*x), amplitude)
	}), api.OK
}

// level returns the number of modules for a sample with the integer s. The
// division drops a rest towards 0, which rounds only those levels wrongly that
// are below 0, and these are 0 in any case.
func level(usable, s, amplitude int) int {
	rounded := (usable*(s+amplitude) + amplitude) / (2 * amplitude)
	return min(max(rounded, 0), usable)
}
