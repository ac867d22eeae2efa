package start

import (
	"bipole/api"
	"bipole/check"
)

// CheckTable returns the first error of a table, or OK.
func CheckTable(l []Row) api.Errno {
	return check.First(check.That(len(l) > 0, api.ErrEmpty), check.Successive(l, MaxRows, checkRow))
}

func checkRow(before []Row, r Row) api.Errno {
	return check.First(
		check.Range(r.Heat, 0, MaxHeat),
		check.Range(r.Power, 0, MaxPower),
		check.That(r == r.behind(before), api.ErrOrder))
}

// behind returns a row that is changed so far that it can stand behind others.
func (r Row) behind(before []Row) Row {
	if len(before) == 0 {
		return Row{Heat: 0, Power: r.Power}
	}
	last := before[len(before)-1]
	return Row{Heat: max(r.Heat, last.Heat+1), Power: min(r.Power, last.Power-1)}
}

// permitted returns the power that a table permits at a heat.
func permitted(l []Row, heat int) int {
	power := 0
	for _, r := range l {
		if r.Heat <= heat {
			power = r.Power
		}
	}
	return power
}

// Derated returns the power that a table permits at a heat.
func Derated(l []Row, heat float32) (int, api.Errno) {
	if e := check.First(CheckTable(l), checkAnyHeat(heat)); e != api.OK {
		return 0, e
	}
	return permitted(l, integer(heat)), api.OK
}

// Held returns the powers that a table permits of wanted ones, and the heats after them.
func Held(c Cooling, l []Row, from float32, wanted []int) ([]int, []float32, api.Errno) {
	e := check.First(CheckCooling(c), CheckTable(l), checkHeat(from, c.Limit), checkPowers(wanted))
	if e != api.OK {
		return nil, nil, e
	}
	powers, heats, _, e := c.held(l, integer(from), wanted)
	return powers, heats, e
}

// held returns wanted powers as a table holds them, and the heats after them, or
// ErrBand with the index of the first power after which it is too hot.
func (c Cooling) held(l []Row, heat int, wanted []int) ([]int, []float32, int, api.Errno) {
	var powers []int
	var heats []float32
	for i, power := range wanted {
		power = min(power, permitted(l, heat))
		heat = c.next(heat, power)
		if heat > c.Limit {
			return nil, nil, i, api.ErrBand
		}
		powers = append(powers, power)
		heats = append(heats, sample(heat))
	}
	return powers, heats, 0, api.OK
}
