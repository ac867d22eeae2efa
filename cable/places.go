package cable

import (
	"bipole/api"
	"bipole/check"
	"bipole/whole"
)

// Place returns the place that a wave from the end A reaches after so many ticks.
func Place(c Cable, ticks int) (api.Ratio, api.Errno) {
	if e := check.First(CheckCable(c), check.Range(ticks, 0, delay(c.Sections))); e != api.OK {
		return api.Ratio{}, e
	}
	return c.place(2 * ticks), api.OK
}

// place returns the place after so many halves of ticks from the end A, which are
// not more than the cable's: where both ends hear a fault at whole ticks, it is at
// a whole number of halves.
func (c Cable) place(halves int) api.Ratio {
	passed := 0
	for halves > 2*c.Sections[passed].Delay {
		halves -= 2 * c.Sections[passed].Delay
		passed++
	}
	s := c.Sections[passed]
	return whole.Lowest(2*s.Delay*length(c.Sections[:passed])+s.Length*halves, 2*s.Delay)
}

// Locate returns the places at which a fault may be.
func Locate(c Cable, a, b api.Interval) ([2]api.Ratio, api.Errno) {
	if e := check.First(CheckCable(c), checkTicks(a), checkTicks(b)); e != api.OK {
		return [2]api.Ratio{}, e
	}
	ticks := delay(c.Sections)
	low := max(ticks+a.Low-b.High, 0)
	high := min(ticks+a.High-b.Low, 2*ticks)
	if low > high {
		return [2]api.Ratio{}, api.ErrNone
	}
	return [2]api.Ratio{c.place(low), c.place(high)}, api.OK
}

// checkTicks returns the error of an interval of ticks, or OK.
func checkTicks(x api.Interval) api.Errno {
	return check.Interval(x, 0, api.MaxNumber)
}
