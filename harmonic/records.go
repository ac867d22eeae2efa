package harmonic

import (
	"math"
	"slices"

	"bipole/api"
	"bipole/check"
	"bipole/list"
	"bipole/phasor"
)

// Record returns the record of a pattern.
func Record(p [12]int, periods int) ([]float32, api.Errno) {
	if e := check.First(checkPattern(p), check.Range(periods, 1, MaxPeriods)); e != api.OK {
		return nil, e
	}
	samples := make([]float32, periods*Steps)
	for i, level := range steps(p, 0, len(samples)) {
		samples[i] = float32(level)
	}
	return samples, api.OK
}

// Levels returns the pattern of a record.
func Levels(l []float32) ([12]int, api.Errno) {
	if e := check.First(checkCount(len(l)), check.Each(l, checkSample)); e != api.OK {
		return [Steps]int{}, e
	}
	levels := list.Mapped(l, func(x float32) int { return int(x) })
	first := [Steps]int(levels)
	for period := range slices.Chunk(levels, Steps) {
		if [Steps]int(period) != first {
			return [Steps]int{}, api.ErrConflict
		}
	}
	return first, api.OK
}

// checkCount returns the error of a number of samples that are not those of
// whole periods.
func checkCount(n int) api.Errno {
	switch {
	case n < Steps:
		return api.ErrShort
	case n > MaxPeriods*Steps:
		return api.ErrMany
	case n%Steps != 0:
		return api.ErrShape
	}
	return api.OK
}

// checkSample returns the error of a sample that is no level.
func checkSample(x float32) api.Errno {
	if e := phasor.CheckSample(x); e != api.OK {
		return e
	}
	if wide := float64(x); math.Trunc(wide) != wide {
		return api.ErrForm
	}
	return checkLevel(int(x))
}
