package loop

import (
	"iter"
	"slices"

	"bipole/api"
	"bipole/check"
	"bipole/list"
)

// CheckBox returns the first error of a loop and a box, or OK.
func CheckBox(l Loop, b Box) api.Errno {
	if e := CheckLoop(l); e != api.OK {
		return e
	}
	if len(b) != len(l.PlantNum) {
		return api.ErrShape
	}
	if e := check.Each(b, checkInterval); e != api.OK {
		return e
	}
	if last := b[len(b)-1]; last.Low <= 0 && last.High >= 0 {
		return api.ErrZero
	}
	if count(b) > MaxGrids {
		return api.ErrMany
	}
	for member := range members(b) {
		if _, e := closedWith(l, member); e != api.OK {
			return e
		}
	}
	return api.OK
}

func checkInterval(x api.Interval) api.Errno {
	return check.Interval(x, -MaxCoefficient, MaxCoefficient)
}

// count returns the number of the members of a box. It is small: numerators of
// plants have one or two coefficients.
func count(b Box) int {
	n := 1
	for _, x := range b {
		n *= x.High - x.Low + 1
	}
	return n
}

// members visits the members of a box, the first one first.
func members(b Box) iter.Seq[Poly] {
	return func(yield func(Poly) bool) {
		visit(nil, b, yield)
	}
}

// visit shows the members that begin with some coefficients and end with those
// of the intervals that are left, and reports whether more are wanted.
func visit(begun Poly, left Box, yield func(Poly) bool) bool {
	if len(left) == 0 {
		return yield(slices.Clone(begun))
	}
	for a := left[0].Low; a <= left[0].High; a++ {
		if !visit(append(begun, a), left[1:], yield) {
			return false
		}
	}
	return true
}

// Certify returns the first numerator of a box for which a loop is not stable, and whether there is one.
func Certify(l Loop, b Box) (Poly, bool, api.Errno) {
	if e := CheckBox(l, b); e != api.OK {
		return nil, false, e
	}
	var found Poly
search:
	for member := range members(b) {
		closed, _ := closedWith(l, member) // CheckBox found no error of any member
		for _, row := range tableOf(closed) {
			if fails(row) {
				found = member
				break search
			}
		}
	}
	return found, len(found) > 0, api.OK
}

// Strength returns the least factor of a numerator up to a greatest one at which a loop is not stable.
func Strength(l Loop, most int) (int, api.Errno) {
	if e := check.First(CheckLoop(l), check.Range(most, 1, MaxStrength)); e != api.OK {
		return 0, e
	}
	for factor := 1; factor <= most; factor++ {
		multiplied := list.Mapped(l.PlantNum, func(a int) int { return factor * a })
		closed, e := closedWith(l, multiplied)
		if e != api.OK {
			return 0, e
		}
		if !stable(closed) {
			return factor, api.OK
		}
	}
	return 0, api.ErrNone
}
