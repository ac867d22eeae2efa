package start

import (
	"bipole/api"
	"bipole/check"
	"bipole/list"
	"bipole/whole"
)

// CheckWear returns the first error of a wear, or OK.
func CheckWear(w Wear) api.Errno {
	return check.First(check.Range(w.From, 0, MaxHeat), check.Range(w.Step, 1, MaxHeat))
}

// Life returns the life that heats use.
func Life(w Wear, heats []float32) (float32, api.Errno) {
	if e := check.First(CheckWear(w), check.List(heats, api.MaxList, checkAnyHeat)); e != api.OK {
		return 0, e
	}
	sum := whole.Sum(list.Mapped(heats, func(heat float32) int { return w.life(integer(heat)) }))
	if sum > MaxHeat { // it never is, with MaxList and MaxDouble as they are
		return 0, api.ErrLarge
	}
	return sample(sum), api.OK
}

func checkAnyHeat(heat float32) api.Errno {
	return checkHeat(heat, MaxHeat)
}

// life returns the sixteenths of life that a heat uses.
func (w Wear) life(heat int) int {
	if heat < w.From {
		return 1
	}
	return whole.Power(2, min(1+(heat-w.From)/w.Step, MaxDouble))
}
