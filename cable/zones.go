package cable

import (
	"bipole/api"
	"bipole/check"
	"bipole/list"
	"bipole/whole"
)

// Factor returns by what a wave from a section is multiplied until it reaches an end.
func Factor(c Cable, section int, end string) (api.Ratio, api.Errno) {
	if e := check.First(CheckCable(c), check.Index(section, len(c.Sections)), checkEnd(end)); e != api.OK {
		return api.Ratio{}, e
	}
	return whole.Lowest(c.factor(section, end), Unit), api.OK
}

// factor returns the factor of a section to an end, in units of 1 / Unit. It is
// an integer, and never below 0.
func (c Cable) factor(section int, end string) int {
	factor := Unit
	for _, eighths := range c.passed(section, end) {
		factor = factor * eighths / Eighths
	}
	return factor
}

// passed returns what runs on, in eighths, of a wave from a section to an end at
// each joint between them.
func (c Cable) passed(section int, end string) []int {
	if end == endA {
		return list.Mapped(c.Joints[:section], func(factor int) int { return Eighths - factor })
	}
	return list.Mapped(c.Joints[section:], func(factor int) int { return Eighths + factor })
}

// checkZone returns the error of a zone of a cable with so many sections, or OK.
func checkZone(z Zone, sections int) api.Errno {
	if z.Sections.From < 0 || z.Sections.From >= z.Sections.To || z.Sections.To > sections {
		return api.ErrSpan
	}
	return check.First(check.Range(z.Least, 1, MaxHeight), check.Range(z.Most, 1, MaxHeight), checkEnd(z.End))
}

// Thresholds returns the thresholds by which an end trips for faults in its zone alone.
func Thresholds(c Cable, z Zone) (api.Interval, api.Errno) {
	if e := check.First(CheckCable(c), checkZone(z, len(c.Sections))); e != api.OK {
		return api.Interval{}, e
	}
	thresholds := api.Interval{Low: 1, High: MaxThreshold}
	for section := range c.Sections {
		factor := c.factor(section, z.End)
		if section >= z.Sections.From && section < z.Sections.To {
			thresholds.High = min(thresholds.High, z.Least*factor)
		} else {
			thresholds.Low = max(thresholds.Low, z.Most*factor+1)
		}
	}
	if thresholds.Low > thresholds.High {
		return api.Interval{}, api.ErrInfeasible
	}
	return thresholds, api.OK
}

func checkThreshold(threshold int) api.Errno {
	return check.Range(threshold, 1, MaxThreshold)
}

// Trips reports whether an end trips.
func Trips(l []Arrival, z Zone, threshold int) (bool, api.Errno) {
	if e := check.First(checkArrivals(l), checkZone(z, MaxSections), checkThreshold(threshold)); e != api.OK {
		return false, e
	}
	return trips(l, z.End, threshold), api.OK
}

// trips reports whether an end trips by a threshold, which is above 0.
func trips(l []Arrival, end string, threshold int) bool {
	a, e := first(l, end)
	return e == api.OK && whole.Absolute(a.Height) >= threshold
}
