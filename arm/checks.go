package arm

import (
	"cmp"
	"slices"

	"bipole/api"
	"bipole/check"
	"bipole/phasor"
)

// CheckArm returns the first error of an arm, or OK.
func CheckArm(a Arm) api.Errno {
	if len(a.Modules) == 0 {
		return api.ErrEmpty
	}
	if len(a.Modules) > MaxModules {
		return api.ErrMany
	}
	return check.First(
		check.Interval(a.Band, 0, MaxCharge),
		check.Range(a.Current, 0, MaxCurrent),
		checkNumber(a.Limit),
		checkModules(a.Modules, a.Band))
}

func checkCharge(charge int) api.Errno {
	return check.Range(charge, 0, MaxCharge)
}

// checkNumber returns ErrRange for a number of modules or switchings that no
// arm has.
func checkNumber(n int) api.Errno {
	return check.Range(n, 0, MaxModules)
}

func checkModules(l []Module, band api.Interval) api.Errno {
	for i, m := range l {
		e := check.First(checkName(m.Name, l[:i]), checkCharge(m.Charge), checkState(m, band))
		if e != api.OK {
			return e
		}
	}
	return api.OK
}

// checkName returns the error of a name that is none, or that a module before
// has.
func checkName(name string, before []Module) api.Errno {
	if !phasor.IsName(name) {
		return api.ErrName
	}
	if indexOf(name, before) >= 0 {
		return api.ErrTwice
	}
	return api.OK
}

// indexOf returns the index of the module with a name, or -1.
func indexOf(name string, l []Module) int {
	return slices.IndexFunc(l, func(m Module) bool { return m.Name == name })
}

func checkState(m Module, band api.Interval) api.Errno {
	if m.Bypassed && m.On {
		return api.ErrConflict
	}
	if m.Bypassed {
		return api.OK
	}
	return checkInside(m.Charge, band)
}

// checkInside returns ErrBand for a charge that is not in a band.
func checkInside(charge int, band api.Interval) api.Errno {
	if charge < band.Low || charge > band.High {
		return api.ErrBand
	}
	return api.OK
}

func checkOrder(o Order) api.Errno {
	return check.First(checkNumber(o.Number), check.Range(o.Current, -MaxCurrent, MaxCurrent))
}

func checkOrders(l []Order) api.Errno {
	return check.List(l, MaxOrders, checkOrder)
}

// checkSet returns the error of the indices of a set, or OK.
func checkSet(set []int, a Arm) api.Errno {
	usable := usableIndices(a)
	return check.Successive(set, MaxModules, func(before []int, index int) api.Errno {
		return check.First(
			check.That(slices.Contains(usable, index), api.ErrUnknown),
			check.Above(before, index, cmp.Compare))
	})
}
