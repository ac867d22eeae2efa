package valve

import (
	"iter"
	"slices"

	"bipole/api"
	"bipole/check"
	"bipole/whole"
)

// allValves is the pulses in which all valves are inserted.
const allValves = 1<<Valves - 1

// CheckTrain returns the first error of a train, or OK.
func CheckTrain(l []Pulse) api.Errno {
	return check.Successive(l, MaxPulses, checkPulse)
}

func checkPulse(before []Pulse, p Pulse) api.Errno {
	return check.First(checkTick(p.Tick), checkSet(p.Pulses), checkLater(before, p))
}

func checkTick(tick int) api.Errno {
	return check.Range(tick, 0, api.MaxTime)
}

// checkSet returns ErrRange for an integer that is no set of valves.
func checkSet(valves int) api.Errno {
	return check.Range(valves, 0, allValves)
}

func checkValve(valve int) api.Errno {
	return check.Range(valve, 0, Valves-1)
}

// timed is what happens at a tick.
type timed interface {
	tick() int
}

func (p Pulse) tick() int {
	return p.Tick
}

// lastTick returns the tick of the last element of a list, -1 if there is none.
func lastTick[T timed](l []T) int {
	if len(l) == 0 {
		return -1
	}
	return l[len(l)-1].tick()
}

// checkLater returns ErrOrder for an element that is not later than those before
// it.
func checkLater[T timed](before []T, x T) api.Errno {
	if x.tick() <= lastTick(before) {
		return api.ErrOrder
	}
	return api.OK
}

// has reports whether a valve is inserted.
func (p Pulse) has(valve int) bool {
	return whole.Has(p.Pulses, valve)
}

// switched visits the pulses of a train in which a valve is in another state than
// in the pulse before, with the switchings of all valves in them.
func switched(l []Pulse) iter.Seq2[Pulse, [Valves]int] {
	return func(yield func(Pulse, [Valves]int) bool) {
		for i := 1; i < len(l); i++ {
			changed := changes(l[i-1], l[i])
			if changed != [Valves]int{} && !yield(l[i], changed) {
				return
			}
		}
	}
}

// changes returns for each valve 1 if it is in another state in a pulse than in
// the one before.
func changes(before, p Pulse) [Valves]int {
	var changed [Valves]int
	for valve := range Valves {
		if p.has(valve) != before.has(valve) {
			changed[valve] = 1
		}
	}
	return changed
}

// Bumps returns the bumps of a train.
func Bumps(l []Pulse, limit int) ([]int, api.Errno) {
	if e := check.First(CheckTrain(l), check.Range(limit, 0, Valves)); e != api.OK {
		return nil, e
	}
	var bumps []int
	for p, changed := range switched(l) {
		if whole.Sum(changed[:]) > limit {
			bumps = append(bumps, p.Tick)
		}
	}
	return bumps, api.OK
}

// Switchings returns the switchings of all valves.
func Switchings(l []Pulse) ([Valves]int, api.Errno) {
	if e := CheckTrain(l); e != api.OK {
		return [Valves]int{}, e
	}
	var sum [Valves]int
	for _, changed := range switched(l) {
		for valve := range Valves {
			sum[valve] += changed[valve]
		}
	}
	return sum, api.OK
}

// Bypassed returns a train without some valves.
func Bypassed(l []Pulse, valves int) ([]Pulse, api.Errno) {
	if e := check.First(CheckTrain(l), checkSet(valves)); e != api.OK {
		return nil, e
	}
	return altered(l, func(p Pulse) int { return p.Pulses &^ valves }), api.OK
}

// Substituted returns a train with a spare valve in place of a failed one.
func Substituted(l []Pulse, failed, spare int) ([]Pulse, api.Errno) {
	if e := check.First(CheckTrain(l), checkValve(failed), checkValve(spare)); e != api.OK {
		return nil, e
	}
	if failed == spare {
		return nil, api.ErrTwice
	}
	if slices.ContainsFunc(l, func(p Pulse) bool { return p.has(spare) }) {
		return nil, api.ErrConflict
	}
	return altered(l, func(p Pulse) int {
		if p.has(failed) {
			return p.Pulses ^ (whole.Bit(failed) | whole.Bit(spare))
		}
		return p.Pulses
	}), api.OK
}

// altered returns a train that inserts other valves at the same ticks.
func altered(l []Pulse, pulses func(Pulse) int) []Pulse {
	train := slices.Clone(l)
	for i, p := range train {
		train[i].Pulses = pulses(p)
	}
	return train
}
