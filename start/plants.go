package start

import (
	"slices"

	"bipole/api"
	"bipole/check"
	"bipole/list"
	"bipole/phasor"
	"bipole/whole"
)

// station is a plant without an error, whose parts can be energized.
type station struct {
	capacity int
	parts    []energized
}

// energized is a part as it is energized in its plant.
type energized struct {
	Part
	index int
	needs int // the set of the parts whose names it needs
}

// CheckPlant returns the first error of a plant, or OK.
func CheckPlant(p Plant) api.Errno {
	_, e := stationOf(p)
	return e
}

// stationOf returns the station of a plant, or the first error of the plant.
func stationOf(p Plant) (station, api.Errno) {
	e := check.First(
		check.Range(p.Capacity, 0, MaxLoad),
		check.That(len(p.Parts) > 0, api.ErrEmpty),
		check.Successive(p.Parts, MaxParts, checkPart))
	if e != api.OK {
		return station{}, e
	}
	indices := list.Indices(p.Parts, func(x Part) string { return x.Name })
	if e := check.Each(p.Parts, func(x Part) api.Errno { return checkNeeds(x.Needs, indices) }); e != api.OK {
		return station{}, e
	}
	s := station{capacity: p.Capacity, parts: list.Mapped(p.Parts, func(x Part) energized {
		return energized{Part: x, index: indices[x.Name], needs: setOf(x.Needs, indices)}
	})}
	if slices.ContainsFunc(s.parts, s.needsItself) {
		return station{}, api.ErrCycle
	}
	return s, api.OK
}

func checkPart(before []Part, x Part) api.Errno {
	return check.First(
		check.That(phasor.IsName(x.Name), api.ErrName),
		check.Once(before, x, func(x Part) string { return x.Name }),
		check.That(len(x.Needs) <= MaxParts, api.ErrMany),
		check.Range(x.Inrush, 0, MaxLoad),
		check.Range(x.Load, -MaxLoad, MaxLoad),
		check.Range(x.Minutes, 1, MaxMinutes))
}

// checkNeeds returns the error of the names that a part needs, or OK.
func checkNeeds(names []string, indices map[string]int) api.Errno {
	return check.Successive(names, MaxParts, func(before []string, name string) api.Errno {
		_, known := indices[name]
		return check.First(
			check.That(known, api.ErrUnknown),
			check.That(!slices.Contains(before, name), api.ErrTwice))
	})
}

// setOf returns the set of the parts with names.
func setOf(names []string, indices map[string]int) int {
	set := 0
	for _, name := range names {
		set |= whole.Bit(indices[name])
	}
	return set
}

// allNeeds returns the set of all that a part needs, also through others.
func (s station) allNeeds(part int) int {
	set := s.parts[part].needs
	for range s.parts { // each time the set grows by a part at least, or is all of them
		for needed := range whole.Bits(set) {
			set |= s.parts[needed].needs
		}
	}
	return set
}

func (s station) needsItself(x energized) bool {
	return whole.Has(s.allNeeds(x.index), x.index)
}

// stationWith returns the station of a plant that has a part, or the first error
// of both.
func stationWith(p Plant, part int) (station, api.Errno) {
	s, e := stationOf(p)
	return s, check.First(e, check.Index(part, len(s.parts)))
}

// stationFor returns the station of a plant that has a set, or the first error of
// both.
func stationFor(p Plant, set int) (station, api.Errno) {
	s, e := stationOf(p)
	return s, check.First(e, s.checkSet(set))
}

// checkSet returns ErrRange for an integer that is no set.
func (s station) checkSet(set int) api.Errno {
	return check.Range(set, 0, whole.Bit(len(s.parts))-1)
}

// Needs returns all parts that a part needs.
func Needs(p Plant, part int) ([]int, api.Errno) {
	s, e := stationWith(p, part)
	if e != api.OK {
		return nil, e
	}
	return slices.Collect(whole.Bits(s.allNeeds(part))), api.OK
}

// Spare returns the capacity that a set of parts leaves.
func Spare(p Plant, set int) (int, api.Errno) {
	s, e := stationFor(p, set)
	if e != api.OK {
		return 0, e
	}
	return s.spare(set), api.OK
}

// spare returns the spare capacity of a set.
func (s station) spare(set int) int {
	return s.capacity - s.sum(set, func(x energized) int { return x.Load })
}

// sum returns the sum of what each part of a set has.
func (s station) sum(set int, of func(energized) int) int {
	sum := 0
	for part := range whole.Bits(set) {
		sum += of(s.parts[part])
	}
	return sum
}

// Ready returns the parts that can be energized next.
func Ready(p Plant, set int) ([]int, api.Errno) {
	s, e := stationFor(p, set)
	if e != api.OK {
		return nil, e
	}
	return s.ready(set), api.OK
}

// ready returns the parts that are ready for a set, ascending.
func (s station) ready(set int) []int {
	var l []int
	for part := range len(s.parts) {
		if s.checkReady(part, set) == api.OK {
			l = append(l, part)
		}
	}
	return l
}

// checkReady returns why an index is not that of a part that is ready for a set, or
// OK.
func (s station) checkReady(part, set int) api.Errno {
	if e := check.Index(part, len(s.parts)); e != api.OK {
		return e
	}
	x := s.parts[part]
	return check.First(
		check.That(!whole.Has(set, part), api.ErrTwice),
		check.That(set&x.needs == x.needs, api.ErrRule),
		check.That(max(x.Inrush, x.Load) <= s.spare(set), api.ErrLimit))
}

// Bound returns the minutes of a part and of all that it needs.
func Bound(p Plant, part int) (int, api.Errno) {
	s, e := stationWith(p, part)
	if e != api.OK {
		return 0, e
	}
	return s.sum(s.allNeeds(part)|whole.Bit(part), func(x energized) int { return x.Minutes }), api.OK
}
