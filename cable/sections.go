package cable

import (
	"slices"

	"bipole/api"
	"bipole/check"
	"bipole/list"
	"bipole/whole"
)

// CheckCable returns the first error of a cable, or OK.
func CheckCable(c Cable) api.Errno {
	if len(c.Sections) == 0 {
		return api.ErrEmpty
	}
	if e := check.List(c.Sections, MaxSections, checkSection); e != api.OK {
		return e
	}
	if len(c.Joints) != len(c.Sections)-1 {
		return api.ErrShape
	}
	return check.First(check.Each(c.Joints, checkJoint), checkEnds(c.Ends))
}

func checkSection(s Section) api.Errno {
	return check.First(check.Range(s.Length, 1, MaxLength), check.Range(s.Delay, 1, MaxDelay))
}

func checkJoint(factor int) api.Errno {
	return check.Range(factor, -Eighths, Eighths)
}

// checkEnds returns ErrRange for the factors of both ends if their limits change
// them.
func checkEnds(factors [2]int) api.Errno {
	within := [2]int{whole.Clamped(factors[0], Eighths), whole.Clamped(factors[1], Eighths)}
	if within != factors {
		return api.ErrRange
	}
	return api.OK
}

// Length returns the length and the delay of a cable.
func Length(c Cable) ([2]int, api.Errno) {
	if e := CheckCable(c); e != api.OK {
		return [2]int{}, e
	}
	return [2]int{length(c.Sections), delay(c.Sections)}, api.OK
}

// length returns the sum of the lengths of sections.
func length(l []Section) int {
	sum := 0
	for _, s := range l {
		sum += s.Length
	}
	return sum
}

// delay returns the sum of the delays of sections.
func delay(l []Section) int {
	sum := 0
	for _, s := range l {
		sum += s.Delay
	}
	return sum
}

// Reversed returns a cable that is seen from its other end.
func Reversed(c Cable) (Cable, api.Errno) {
	if e := CheckCable(c); e != api.OK {
		return Cable{}, e
	}
	turned := copied(c)
	slices.Reverse(turned.Sections)
	slices.Reverse(turned.Joints)
	turned.Joints = list.Mapped(turned.Joints, func(factor int) int { return -factor })
	turned.Ends = [2]int{c.Ends[1], c.Ends[0]}
	return turned, api.OK
}

// copied returns a cable in memory of its own.
func copied(c Cable) Cable {
	c.Sections = slices.Clone(c.Sections)
	c.Joints = slices.Clone(c.Joints)
	return c
}

// Split returns a cable in which a section is split in two.
func Split(c Cable, section, ticks int) (Cable, api.Errno) {
	if e := check.First(CheckCable(c), check.Index(section, len(c.Sections))); e != api.OK {
		return Cable{}, e
	}
	old := c.Sections[section]
	if e := check.Range(ticks, 1, old.Delay-1); e != api.OK {
		return Cable{}, e
	}
	if len(c.Sections) == MaxSections {
		return Cable{}, api.ErrMany
	}
	first := Section{Length: old.Length * ticks / old.Delay, Delay: ticks}
	if first.Length == 0 {
		return Cable{}, api.ErrShort
	}
	rest := Section{Length: old.Length - first.Length, Delay: old.Delay - ticks}
	split := copied(c)
	split.Sections[section] = first
	split.Sections = slices.Insert(split.Sections, section+1, rest)
	split.Joints = slices.Insert(split.Joints, section, 0)
	return split, api.OK
}
