package permit

import (
	"bipole/api"
	"bipole/check"
	"bipole/list"
	"bipole/whole"
)

// aim is a goal without an error: a section, and the set of the sections that are what
// it has to be.
type aim struct {
	section int
	set     func(survey) int
}

// goalSets returns the sets by the kinds of goals.
func goalSets() map[string]func(survey) int {
	return map[string]func(survey) int{
		"energized": func(s survey) int { return s.energized },
		"dead":      func(s survey) int { return ^s.energized },
		"secured":   survey.secured,
	}
}

// aimOf returns the aim of a goal, or the first error of a yard and of a goal.
func aimOf(y Yard, g Goal) (aim, api.Errno) {
	set, isKind := goalSets()[g.Kind]
	section, known := list.Indices(y.Sections, Section.name)[g.Section]
	e := check.First(
		CheckYard(y),
		check.That(isKind, api.ErrKind),
		check.That(known, api.ErrUnknown))
	if e != api.OK {
		return aim{}, e
	}
	return aim{section: section, set: set}, api.OK
}

// holds reports whether the goal holds in a yard.
func (a aim) holds(y Yard) bool {
	return whole.Has(a.set(y.survey()), a.section)
}
