package arm

import (
	"iter"
	"slices"

	"bipole/api"
)

// usable visits the modules that are not bypassed, with their indices.
func usable(a Arm) iter.Seq2[int, Module] {
	return func(yield func(int, Module) bool) {
		for i, m := range a.Modules {
			if !m.Bypassed && !yield(i, m) {
				return
			}
		}
	}
}

func usableIndices(a Arm) []int {
	var indices []int
	for i := range usable(a) {
		indices = append(indices, i)
	}
	return indices
}

func usableCharges(a Arm) []int {
	var charges []int
	for _, m := range usable(a) {
		charges = append(charges, m.Charge)
	}
	return charges
}

// copied returns an arm that shares no memory with the given one.
func copied(a Arm) Arm {
	a.Modules = slices.Clone(a.Modules)
	return a
}

// Usable returns the modules that are not bypassed.
func Usable(a Arm) ([]int, api.Errno) {
	if e := CheckArm(a); e != api.OK {
		return nil, e
	}
	return usableIndices(a), api.OK
}

// Voltage returns the voltage of an arm.
func Voltage(a Arm) (int, api.Errno) {
	if e := CheckArm(a); e != api.OK {
		return 0, e
	}
	voltage := 0
	for _, m := range usable(a) {
		if m.On {
			voltage += m.Charge
		}
	}
	return voltage, api.OK
}

// Spread returns the spread of the charges.
func Spread(a Arm) (int, api.Errno) {
	if e := CheckArm(a); e != api.OK {
		return 0, e
	}
	return spread(a), api.OK
}

func spread(a Arm) int {
	charges := usableCharges(a)
	if len(charges) == 0 {
		return 0
	}
	return slices.Max(charges) - slices.Min(charges)
}

// Energy returns the energy of an arm.
func Energy(a Arm) (int, api.Errno) {
	if e := CheckArm(a); e != api.OK {
		return 0, e
	}
	energy := 0
	for _, charge := range usableCharges(a) {
		energy += charge * charge
	}
	return energy, api.OK
}

// Guaranteed returns the number of steps that keep the band.
func Guaranteed(a Arm) (int, api.Errno) {
	if e := CheckArm(a); e != api.OK {
		return 0, e
	}
	steps := MaxOrders
	if a.Current == 0 {
		return steps, api.OK
	}
	for _, charge := range usableCharges(a) {
		margin := min(charge-a.Band.Low, a.Band.High-charge)
		steps = min(steps, margin/a.Current)
	}
	return steps, api.OK
}

// Mirrored returns an arm with the opposite charges.
func Mirrored(a Arm) (Arm, api.Errno) {
	if e := CheckArm(a); e != api.OK {
		return Arm{}, e
	}
	mirrored := copied(a)
	for i, m := range usable(a) {
		mirrored.Modules[i].Charge = a.Band.Low + a.Band.High - m.Charge
	}
	return mirrored, api.OK
}
