package loop

import (
	"bipole/api"
	"bipole/check"
	"bipole/whole"
)

// CheckRing returns the first error of a ring, or OK.
func CheckRing(r Ring) api.Errno {
	if len(r) == 0 {
		return api.ErrEmpty
	}
	return check.List(r, MaxRing, func(next int) api.Errno {
		return check.Range(next, 0, len(r)-1)
	})
}

// Made returns the ring that steps towards a phase.
func Made(n, phase, most int) (Ring, api.Errno) {
	if e := check.First(check.Range(n, 1, MaxRing), check.Index(phase, n), check.Range(most, 1, MaxRing)); e != api.OK {
		return nil, e
	}
	ring := make(Ring, n)
	for from := range ring {
		up, down := whole.Remainder(phase-from, n), whole.Remainder(from-phase, n)
		if up <= down {
			ring[from] = whole.Remainder(from+min(up, most), n)
		} else {
			ring[from] = whole.Remainder(from-min(down, most), n)
		}
	}
	return ring, api.OK
}

// Basin returns the phases from which a ring falls into a phase.
func Basin(r Ring, phase int) ([]int, api.Errno) {
	if e := check.First(CheckRing(r), check.Index(phase, len(r))); e != api.OK {
		return nil, e
	}
	var basin []int
	for from := range r {
		if _, falls := falling(r, from, phase); falls {
			basin = append(basin, from)
		}
	}
	return basin, api.OK
}

// falling returns after how many steps a ring falls into a phase, and whether it
// does. With as many steps as phases it comes back to one that was there before.
func falling(r Ring, from, phase int) (int, bool) {
	at := from
	for steps := range len(r) {
		if at == phase {
			return steps, true
		}
		at = r[at]
	}
	return 0, false
}

// Locks returns after how many steps a ring falls into a phase from another one.
func Locks(r Ring, from, phase int) (int, api.Errno) {
	if e := check.First(CheckRing(r), check.Index(from, len(r)), check.Index(phase, len(r))); e != api.OK {
		return 0, e
	}
	steps, falls := falling(r, from, phase)
	if !falls {
		return 0, api.ErrNone
	}
	return steps, api.OK
}

// CheckBasin returns OK for numbers that prove that all phases fall into a phase.
func CheckBasin(r Ring, phase int, numbers []int) api.Errno {
	if e := check.First(CheckRing(r), check.Index(phase, len(r))); e != api.OK {
		return e
	}
	if len(numbers) != len(r) {
		return api.ErrShape
	}
	for at, n := range numbers {
		isNear := at != phase && n > 0 && numbers[r[at]] < n
		isThere := at == phase && n == 0
		if !isNear && !isThere {
			return api.ErrProof
		}
	}
	return api.OK
}
