package permit

import (
	"slices"

	"bipole/api"
	"bipole/check"
	"bipole/list"
	"bipole/phasor"
	"bipole/whole"
)

// The kinds of switches.
const (
	breakerKind  = "breaker"
	isolatorKind = "isolator"
	earthKind    = "earth"
)

// ground is the end B of an earth.
const ground = -1

// CheckYard returns the first error of a yard, or OK.
func CheckYard(y Yard) api.Errno {
	e := check.First(
		check.That(len(y.Sections) > 0, api.ErrEmpty),
		check.Successive(y.Sections, MaxSections, checkSection),
		check.Successive(y.Switches, MaxSwitches, y.checkSwitch),
		check.Successive(y.Permits, MaxPermits, y.checkPermit))
	if e != api.OK {
		return e
	}
	return check.That(y.survey().isSound(), api.ErrState)
}

func checkSection(before []Section, x Section) api.Errno {
	return checkName(before, x, Section.name)
}

func (y Yard) checkSwitch(before []Switch, x Switch) api.Errno {
	return check.First(
		checkName(before, x, Switch.name),
		check.That(isSwitchKind(x.Kind), api.ErrKind),
		check.Index(x.A, len(y.Sections)),
		x.checkOther(len(y.Sections)))
}

func (y Yard) checkPermit(before []Permit, x Permit) api.Errno {
	return check.First(
		checkName(before, x, Permit.name),
		check.Index(x.Section, len(y.Sections)))
}

func isSwitchKind(kind string) bool {
	return kind == breakerKind || kind == isolatorKind || kind == earthKind
}

// checkName returns the error of the name of an element that stands behind others,
// or OK.
func checkName[T any](before []T, x T, name func(T) string) api.Errno {
	return check.First(
		check.That(phasor.IsName(name(x)), api.ErrName),
		check.Once(before, x, name))
}

func (x Section) name() string {
	return x.Name
}

func (x Switch) name() string {
	return x.Name
}

func (x Permit) name() string {
	return x.Name
}

// checkOther returns the error of the end B of a switch that is in a yard of so many
// sections, or OK.
func (x Switch) checkOther(sections int) api.Errno {
	ends := [2]int{x.A, x.B}
	if x.Kind == earthKind {
		return check.That(ends == [2]int{x.A, ground}, api.ErrConflict)
	}
	return check.First(
		check.Index(x.B, sections),
		check.That(ends != [2]int{x.A, x.A}, api.ErrConflict))
}

// joins reports whether a switch joins two sections.
func (x Switch) joins() bool {
	return x.Closed && x.Kind != earthKind
}

// earths reports whether a switch earths a section.
func (x Switch) earths() bool {
	return x.Closed && x.Kind == earthKind
}

// copied returns a yard that shares no memory with this one.
func (y Yard) copied() Yard {
	return Yard{
		Sections: slices.Clone(y.Sections),
		Switches: slices.Clone(y.Switches),
		Permits:  slices.Clone(y.Permits),
	}
}

// Islands returns the islands of a yard.
func Islands(y Yard) ([][]int, api.Errno) {
	if e := CheckYard(y); e != api.OK {
		return nil, e
	}
	var l [][]int
	for section, island := range y.islands() {
		sections := slices.Collect(whole.Bits(island))
		if sections[0] == section { // each island is taken where its first section is
			l = append(l, sections)
		}
	}
	return l, api.OK
}

// islands returns for each section the set of the sections of its island.
func (y Yard) islands() []int {
	islands := make([]int, len(y.Sections))
	for section := range islands {
		islands[section] = whole.Bit(section)
	}
	for _, x := range list.Filtered(y.Switches, Switch.joins) {
		joined := islands[x.A] | islands[x.B]
		for section := range whole.Bits(joined) {
			islands[section] = joined
		}
	}
	return islands
}

// survey is the sets of the sections of a yard that are energized, earthed and
// separated, and that have a permit.
type survey struct {
	energized int
	earthed   int
	separated int
	permitted int
}

// survey returns what the sections of a yard are.
func (y Yard) survey() survey {
	islands, bridged := y.islands(), y.bridged().islands()
	s := survey{separated: whole.Bit(len(y.Sections)) - 1}
	for i, x := range y.Sections {
		if x.Source {
			s.energized |= islands[i]
			s.separated &^= bridged[i]
		}
	}
	for _, x := range list.Filtered(y.Switches, Switch.earths) {
		s.earthed |= islands[x.A]
	}
	for _, x := range y.Permits {
		s.permitted |= whole.Bit(x.Section)
	}
	return s
}

// bridged returns a yard with all breakers closed.
func (y Yard) bridged() Yard {
	after := y.copied()
	for i := range len(after.Switches) {
		if after.Switches[i].Kind == breakerKind {
			after.Switches[i].Closed = true
		}
	}
	return after
}

// secured returns the set of the sections that are secured.
func (s survey) secured() int {
	return s.separated & s.earthed
}

// isShort reports whether a section is both energized and earthed.
func (s survey) isShort() bool {
	return s.energized&s.earthed != 0
}

// isOpen reports whether a section that has a permit is not secured.
func (s survey) isOpen() bool {
	return s.permitted&^s.secured() != 0
}

func (s survey) isSound() bool {
	return !s.isShort() && !s.isOpen()
}

// sectionsOf returns the sections of a set of the survey of a yard, ascending, or the
// first error of the yard.
func sectionsOf(y Yard, set func(survey) int) ([]int, api.Errno) {
	if e := CheckYard(y); e != api.OK {
		return nil, e
	}
	return slices.Collect(whole.Bits(set(y.survey()))), api.OK
}

// Energized returns the sections that are energized.
func Energized(y Yard) ([]int, api.Errno) {
	return sectionsOf(y, func(s survey) int { return s.energized })
}

// Earthed returns the sections that are earthed.
func Earthed(y Yard) ([]int, api.Errno) {
	return sectionsOf(y, func(s survey) int { return s.earthed })
}

// Separated returns the sections that are separated.
func Separated(y Yard) ([]int, api.Errno) {
	return sectionsOf(y, func(s survey) int { return s.separated })
}

// Secured returns the sections that are secured.
func Secured(y Yard) ([]int, api.Errno) {
	return sectionsOf(y, survey.secured)
}

// Left returns the earths that are left.
func Left(y Yard) ([]string, api.Errno) {
	if e := CheckYard(y); e != api.OK {
		return nil, e
	}
	islands, permitted := y.islands(), y.survey().permitted
	left := list.Filtered(y.Switches, func(x Switch) bool {
		return x.earths() && islands[x.A]&permitted == 0
	})
	return list.Mapped(left, Switch.name), api.OK
}
