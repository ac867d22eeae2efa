package loop

import (
	"slices"

	"bipole/api"
	"bipole/check"
	"bipole/whole"
)

// CheckPoly returns the first error of a polynomial, or OK.
func CheckPoly(p Poly) api.Errno {
	if len(p) == 0 {
		return api.ErrEmpty
	}
	if e := check.List(p, MaxDegree+1, checkCoefficient); e != api.OK {
		return e
	}
	if p[degree(p)] == 0 {
		return api.ErrZero
	}
	return api.OK
}

func checkCoefficient(a int) api.Errno {
	return check.Range(a, -MaxCoefficient, MaxCoefficient)
}

// checkPoint returns ErrRange for a complex integer if the limits of its parts
// change it.
func checkPoint(z api.Gauss) api.Errno {
	within := api.Gauss{Re: whole.Clamped(z.Re, MaxPart), Im: whole.Clamped(z.Im, MaxPart)}
	if within != z {
		return api.ErrRange
	}
	return api.OK
}

// limited returns the polynomial that is a result, or ErrLarge if one of its
// coefficients is not in its range.
func limited(p Poly) (Poly, api.Errno) {
	if check.Each(p, checkCoefficient) != api.OK {
		return nil, api.ErrLarge
	}
	return p, api.OK
}

// Degree returns the degree of a polynomial.
func Degree(p Poly) (int, api.Errno) {
	if e := CheckPoly(p); e != api.OK {
		return 0, e
	}
	return degree(p), api.OK
}

func degree(p Poly) int {
	return len(p) - 1
}

// Value returns the value of a polynomial at a complex integer.
func Value(p Poly, z api.Gauss) (api.Gauss, api.Errno) {
	if e := check.First(CheckPoly(p), checkPoint(z)); e != api.OK {
		return api.Gauss{}, e
	}
	return value(p, z), api.OK
}

func value(p Poly, z api.Gauss) api.Gauss {
	var v api.Gauss
	for _, a := range slices.Backward(p) {
		v = api.Gauss{Re: v.Re*z.Re - v.Im*z.Im + a, Im: v.Re*z.Im + v.Im*z.Re}
	}
	return v
}

// Sum returns the sum of two polynomials.
func Sum(a, b Poly) (Poly, api.Errno) {
	if e := check.First(CheckPoly(a), CheckPoly(b)); e != api.OK {
		return nil, e
	}
	result := sum(a, b)
	if len(result) == 0 {
		return nil, api.ErrZero
	}
	return limited(result)
}

// sum returns the sum of two polynomials, which has no coefficients if it is 0.
func sum(a, b Poly) Poly {
	if len(a) < len(b) {
		a, b = b, a
	}
	result := slices.Clone(a)
	for k, x := range b {
		result[k] += x
	}
	end := len(result)
	for end > 0 && result[end-1] == 0 {
		end--
	}
	return result[:end]
}

// Product returns the product of two polynomials.
func Product(a, b Poly) (Poly, api.Errno) {
	if e := check.First(CheckPoly(a), CheckPoly(b)); e != api.OK {
		return nil, e
	}
	result := product(a, b)
	if len(result) > MaxDegree+1 {
		return nil, api.ErrMany
	}
	return limited(result)
}

func product(a, b Poly) Poly {
	result := make(Poly, len(a)+len(b)-1)
	for i, x := range a {
		for k, y := range b {
			result[i+k] += x * y
		}
	}
	return result
}
