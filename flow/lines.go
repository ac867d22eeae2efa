package flow

import (
	"slices"

	"bipole/api"
	"bipole/check"
	"bipole/whole"
)

// minPoints is the least number of points of a line.
const minPoints = 2

// CheckLine returns the first error of a line, or OK.
func CheckLine(l Line) api.Errno {
	if len(l) < minPoints {
		return api.ErrShort
	}
	if len(l) > MaxPoints {
		return api.ErrMany
	}
	for i, p := range l {
		if e := checkPoint(p); e != api.OK {
			return e
		}
		if i > 0 && (p.Voltage <= l[i-1].Voltage || p.Power >= l[i-1].Power) {
			return api.ErrOrder
		}
	}
	return api.OK
}

// checkPoint returns ErrRange for a point if the limits of its numbers change
// it.
func checkPoint(p Point) api.Errno {
	within := Point{Voltage: min(max(p.Voltage, 0), MaxVoltage), Power: whole.Clamped(p.Power, MaxPower)}
	if within != p {
		return api.ErrRange
	}
	return api.OK
}

// voltages returns the least and the greatest voltage of a line.
func voltages(l Line) api.Interval {
	return api.Interval{Low: l[0].Voltage, High: l[len(l)-1].Voltage}
}

// checkVoltage returns ErrSpan for a voltage that is not from the least to the
// greatest one.
func checkVoltage(voltage int, span api.Interval) api.Errno {
	if voltage < span.Low || voltage > span.High {
		return api.ErrSpan
	}
	return api.OK
}

// At returns the power of a line at a voltage.
func At(l Line, voltage int) (api.Ratio, api.Errno) {
	if e := CheckLine(l); e != api.OK {
		return api.Ratio{}, e
	}
	if e := checkVoltage(voltage, voltages(l)); e != api.OK {
		return api.Ratio{}, e
	}
	return straightAt(l, voltage).at(api.Ratio{Num: voltage, Den: 1}), api.OK
}

// Moved returns a line whose powers are moved.
func Moved(l Line, by int) (Line, api.Errno) {
	if e := check.First(CheckLine(l), check.Range(by, -2*MaxPower, 2*MaxPower)); e != api.OK {
		return nil, e
	}
	moved := slices.Clone(l)
	for i := range moved {
		moved[i].Power += by
	}
	if CheckLine(moved) != api.OK {
		return nil, api.ErrLarge
	}
	return moved, api.OK
}

// straight is a straight line: its power at a voltage is the slope times the
// voltage plus the base, by den, which is above 0.
type straight struct {
	slope int
	base  int
	den   int
}

// through returns the straight line through two points, of which the second one
// has the greater voltage.
func through(p, q Point) straight {
	den, slope := q.Voltage-p.Voltage, q.Power-p.Power
	return straight{slope: slope, base: den*p.Power - slope*p.Voltage, den: den}
}

// straightAt returns the straight line that a line follows from one of its
// voltages on to the next integer, or, at its last voltage, up to there.
func straightAt(l Line, voltage int) straight {
	next := 1
	for next < len(l)-1 && l[next].Voltage <= voltage {
		next++
	}
	return through(l[next-1], l[next])
}

// at returns the power at a voltage.
func (s straight) at(voltage api.Ratio) api.Ratio {
	return whole.Lowest(s.slope*voltage.Num+s.base*voltage.Den, s.den*voltage.Den)
}

// voltageOf returns the voltage at which a straight line has a power.
func (s straight) voltageOf(power int) api.Ratio {
	return whole.Lowest(power*s.den-s.base, s.slope)
}

// plus returns the straight line whose powers are the sums of those of two. The
// numbers of three lines of stations have up to 44 bits.
func (s straight) plus(other straight) straight {
	return straight{
		slope: s.slope*other.den + other.slope*s.den,
		base:  s.base*other.den + other.base*s.den,
		den:   s.den * other.den,
	}
}
