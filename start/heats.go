package start

import (
	"sort"

	"bipole/api"
	"bipole/check"
	"bipole/phasor"
	"bipole/whole"
)

// sixteenths is the integer of the sample 1.
const sixteenths = 16

// sample returns the sample of an integer.
func sample(n int) float32 {
	return float32(n) / sixteenths
}

// integer returns the integer of a sample.
func integer(x float32) int {
	return int(x * sixteenths)
}

// CheckCooling returns the first error of a cooling, or OK.
func CheckCooling(c Cooling) api.Errno {
	return check.First(
		check.Range(c.Outside, 0, MaxHeat),
		check.Range(c.Gain, 0, Whole),
		check.Range(c.Loss, 0, Whole),
		check.Range(c.Limit, 0, MaxHeat),
		check.That(c.Limit >= c.Outside, api.ErrOrder))
}

// checkHeat returns the error of a heat that is to be from 0 to a limit: ErrRange if
// it widens these bounds.
func checkHeat(heat float32, limit int) api.Errno {
	bounds := [2]float32{0, sample(limit)}
	widened := [2]float32{min(bounds[0], heat), max(bounds[1], heat)}
	return check.First(phasor.CheckSample(heat), check.That(widened == bounds, api.ErrRange))
}

func checkPower(power int) api.Errno {
	return check.Range(power, 0, MaxPower)
}

func checkPowers(l []int) api.Errno {
	return check.List(l, api.MaxList, checkPower)
}

// next returns the next heat of a heat at a power.
func (c Cooling) next(heat, power int) int {
	return heat + whole.RoundedDown(c.Gain*power-c.Loss*(heat-c.Outside), Whole)
}

// Heat returns the heats after powers, or the index of the first power that makes it too hot.
func Heat(c Cooling, from float32, powers []int) ([]float32, int, api.Errno) {
	if e := check.First(CheckCooling(c), checkHeat(from, c.Limit), checkPowers(powers)); e != api.OK {
		return nil, 0, e
	}
	all := []Row{{Power: MaxPower}} // permits each power at each heat
	_, heats, at, e := c.held(all, integer(from), powers)
	return heats, at, e
}

// Settled returns the heat at which a power settles.
func Settled(c Cooling, power int) (float32, api.Errno) {
	if e := check.First(CheckCooling(c), checkPower(power)); e != api.OK {
		return 0, e
	}
	heat, settles := c.settled(power)
	if !settles {
		return 0, api.ErrBand
	}
	return sample(heat), api.OK
}

// settled returns the heat at which a power settles, and whether it does.
func (c Cooling) settled(power int) (int, bool) {
	heat := c.Outside
	for {
		next := c.next(heat, power)
		if next > c.Limit {
			return 0, false
		}
		if next == heat {
			return heat, true
		}
		heat = next
	}
}

// Rating returns the greatest power that never makes it too hot.
func Rating(c Cooling) (int, api.Errno) {
	if e := CheckCooling(c); e != api.OK {
		return 0, e
	}
	// A power above one that does not settle does not settle, either.
	return sort.Search(MaxPower, func(power int) bool {
		_, settles := c.settled(power + 1)
		return !settles
	}), api.OK
}
