package flow

import (
	"bipole/api"
	"bipole/check"
	"bipole/list"
)

// CheckLines returns the first error of the lines of several stations, or OK.
func CheckLines(l []Line) api.Errno {
	if len(l) == 0 {
		return api.ErrEmpty
	}
	if e := check.List(l, MaxStations, CheckLine); e != api.OK {
		return e
	}
	if common := commonVoltages(l); common.Low > common.High {
		return api.ErrNone
	}
	return api.OK
}

// commonVoltages returns the least and the greatest voltage that all lines have;
// there is none if the least one is the greater one.
func commonVoltages(l []Line) api.Interval {
	common := voltages(l[0])
	for _, line := range l[1:] {
		own := voltages(line)
		common = api.Interval{Low: max(common.Low, own.Low), High: min(common.High, own.High)}
	}
	return common
}

// Crossing returns the voltage at which the powers of all lines add up to a load.
func Crossing(l []Line, load int) (api.Ratio, api.Errno) {
	if e := check.First(CheckLines(l), check.Range(load, -MaxLoad, MaxLoad)); e != api.OK {
		return api.Ratio{}, e
	}
	return crossing(l, load)
}

// crossing looks for the crossing of well-formed lines from each common voltage
// to the next one: points of lines have integer voltages, so that all lines are
// straight there.
func crossing(l []Line, load int) (api.Ratio, api.Errno) {
	common := commonVoltages(l)
	voltage, e := api.Ratio{}, api.ErrNone
search:
	for from := common.Low; from <= common.High; from++ {
		to := min(from+1, common.High)
		at := total(l, from).voltageOf(load)
		switch {
		case at.Num < from*at.Den: // all later powers are too small
			break search
		case at.Num <= to*at.Den:
			voltage, e = at, api.OK
			break search
		}
	}
	return voltage, e
}

// total returns the sum of the straight lines that lines follow from a voltage
// on.
func total(l []Line, voltage int) straight {
	sum := straight{den: 1}
	for _, line := range l {
		sum = sum.plus(straightAt(line, voltage))
	}
	return sum
}

// Shares returns the powers of all lines at the crossing.
func Shares(l []Line, load int) ([]api.Ratio, api.Errno) {
	voltage, e := Crossing(l, load)
	if e != api.OK {
		return nil, e
	}
	return list.Mapped(l, func(line Line) api.Ratio {
		return straightAt(line, voltage.Num/voltage.Den).at(voltage)
	}), api.OK
}
