package flow

import (
	"iter"

	"bipole/api"
	"bipole/check"
)

// CheckTrip returns the first error of a trip, or OK.
func CheckTrip(x Trip) api.Errno {
	e := check.First(
		check.Range(x.Limit, 0, MaxLevel),
		check.Range(x.Most, 0, MaxLevel),
		check.Range(x.Chop, 1, MaxLevel),
		check.Range(x.Fall, 1, MaxLevel))
	if e == api.OK && x.Limit > x.Most {
		e = api.ErrOrder
	}
	return e
}

// Run returns the states of a trip, up to the safe point.
func Run(x Trip, s State) ([]State, int, api.Errno) {
	if e := check.First(CheckTrip(x), check.Range(s.Voltage, 0, x.Most), check.Range(s.Inflow, 0, MaxLevel)); e != api.OK {
		return nil, 0, e
	}
	var run []State
	for i, now := range x.states(s) {
		if i > MaxTicks {
			return nil, 0, api.ErrLimit
		}
		if now.Voltage > x.Most {
			return nil, i, api.ErrBand
		}
		run = append(run, now)
	}
	return run, 0, api.OK
}

// states visits the states from a first one to the first safe point, with their
// indices. It comes to an end, as both the chopper and the fall take something.
func (x Trip) states(s State) iter.Seq2[int, State] {
	return func(yield func(int, State) bool) {
		for i := 0; yield(i, s) && !x.isSafe(s); i++ {
			s = x.next(s)
		}
	}
}

func (x Trip) isSafe(s State) bool {
	return s.Inflow == 0 && s.Voltage <= x.Limit
}

func (x Trip) next(s State) State {
	voltage := s.Voltage + s.Inflow
	if s.Voltage > x.Limit {
		voltage -= x.Chop
	}
	return State{Voltage: max(voltage, 0), Inflow: max(s.Inflow-x.Fall, 0)}
}
