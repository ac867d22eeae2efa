package cable

import (
	"bipole/api"
	"bipole/check"
)

// CheckFault returns the first error of a fault, or OK.
func CheckFault(c Cable, f Fault) api.Errno {
	if e := check.First(CheckCable(c), check.Index(f.Section, len(c.Sections))); e != api.OK {
		return e
	}
	e := check.First(
		check.Range(f.Offset, 1, c.Sections[f.Section].Delay-1),
		check.Range(f.Tick, 0, api.MaxTime),
		check.Range(f.Height, -MaxHeight, MaxHeight))
	if e == api.OK && f.Height == 0 {
		e = api.ErrZero
	}
	return e
}

// Turned returns a fault of the reversed cable.
func Turned(c Cable, f Fault) (Fault, api.Errno) {
	if e := CheckFault(c, f); e != api.OK {
		return Fault{}, e
	}
	turned := f
	turned.Section = len(c.Sections) - 1 - f.Section
	turned.Offset = c.Sections[f.Section].Delay - f.Offset
	return turned, api.OK
}

// Direct returns the tick and the height of the first wave at an end.
func Direct(c Cable, f Fault, end string) ([2]int, api.Errno) {
	if e := check.First(CheckFault(c, f), checkEnd(end)); e != api.OK {
		return [2]int{}, e
	}
	factor := c.factor(f.Section, end)
	if factor == 0 {
		return [2]int{}, api.ErrNone
	}
	return [2]int{f.Tick + c.delayTo(f, end), f.Height * factor}, api.OK
}

// delayTo returns the time of a wave from a fault to an end.
func (c Cable) delayTo(f Fault, end string) int {
	fromA := delay(c.Sections[:f.Section]) + f.Offset
	if end == endA {
		return fromA
	}
	return delay(c.Sections) - fromA
}
