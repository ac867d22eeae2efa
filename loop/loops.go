package loop

import (
	"bipole/api"
	"bipole/check"
)

// maxDen is the greatest degree of a denominator of a loop.
const maxDen = 2

// quarters is the powers of i, from the power of 0 on.
var quarters = [4]api.Gauss{{Re: 1, Im: 0}, {Re: 0, Im: 1}, {Re: -1, Im: 0}, {Re: 0, Im: -1}}

// CheckLoop returns the first error of a loop, or OK.
func CheckLoop(l Loop) api.Errno {
	_, e := Closed(l)
	return e
}

// Closed returns the polynomial of a closed loop.
func Closed(l Loop) (Poly, api.Errno) {
	e := check.First(
		CheckPoly(l.PlantNum),
		CheckPoly(l.PlantDen),
		CheckPoly(l.ControllerNum),
		CheckPoly(l.ControllerDen),
		checkDegrees(l))
	if e != api.OK {
		return nil, e
	}
	return closedWith(l, l.PlantNum)
}

func checkDegrees(l Loop) api.Errno {
	if degree(l.PlantDen) > maxDen || degree(l.ControllerDen) > maxDen {
		return api.ErrLimit
	}
	if degree(l.PlantNum) >= degree(l.PlantDen) || degree(l.ControllerNum) > degree(l.ControllerDen) {
		return api.ErrShape
	}
	return api.OK
}

// closedWith returns the polynomial of a closed loop with another numerator of
// the plant, or ErrLarge.
func closedWith(l Loop, plantNum Poly) (Poly, api.Errno) {
	return limited(sum(product(l.PlantDen, l.ControllerDen), product(plantNum, l.ControllerNum)))
}

// Response returns the values of the polynomial of a closed loop at the four quarters of the unit circle.
func Response(l Loop) ([4]complex128, api.Errno) {
	closed, e := Closed(l)
	if e != api.OK {
		return [4]complex128{}, e
	}
	var response [4]complex128
	for k, z := range quarters {
		v := value(closed, z)
		response[k] = complex(float64(v.Re), float64(v.Im))
	}
	return response, api.OK
}
