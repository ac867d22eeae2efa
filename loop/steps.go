package loop

import (
	"bipole/api"
	"bipole/check"
	"bipole/list"
	"bipole/whole"
)

// weight is what a value before is multiplied by in a step.
type weight int

func (w weight) negated() weight {
	return -w
}

// Stepped returns the scaled values that a polynomial makes of its first values.
func Stepped(p Poly, first []int, steps int) ([]int, api.Errno) {
	if e := check.First(CheckPoly(p), checkFirst(first, degree(p)), check.Range(steps, 0, MaxSteps)); e != api.OK {
		return nil, e
	}
	values := scaledFirst(p, first)
	weights := weightsOf(p)
	for t := range steps {
		x := 0
		for k, w := range weights {
			x += int(w) * values[t+k]
		}
		if check.Range(x, -MaxScaled, MaxScaled) != api.OK {
			return nil, api.ErrLarge
		}
		values = append(values, x)
	}
	return values, api.OK
}

// checkFirst returns the error of the first values for a degree, or OK.
func checkFirst(first []int, degree int) api.Errno {
	if degree == 0 {
		return api.ErrEmpty
	}
	if len(first) != degree {
		return api.ErrShape
	}
	return check.Each(first, func(y int) api.Errno {
		return check.Range(y, -MaxFirst, MaxFirst)
	})
}

// scaledFirst returns first values, scaled. None of them is too large: there are
// at most four, and 1000 times the power 3 of 100 is below MaxScaled.
func scaledFirst(p Poly, first []int) []int {
	values := make([]int, len(first))
	for t, y := range first {
		values[t] = y * whole.Power(p[degree(p)], t)
	}
	return values
}

// weightsOf returns the weights of as many values before as a polynomial has
// roots, the earliest one first.
func weightsOf(p Poly) []weight {
	n := degree(p)
	weights := make([]weight, n)
	for k := range n {
		weights[k] = weight(p[k] * whole.Power(p[n], n-k-1))
	}
	return list.Mapped(weights, weight.negated)
}
