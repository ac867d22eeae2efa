package phasor

import (
	"bipole/api"
	"bipole/check"
	"bipole/eisen"
	"bipole/whole"
)

// CheckEisen returns the error of a number, or OK.
func CheckEisen(x api.Eisen) api.Errno {
	return checkParts(x, api.MaxPart)
}

// checkParts returns ErrRange for a number with a part that is not from -most
// to most.
func checkParts(x api.Eisen, most int) api.Errno {
	return check.First(check.Range(x.A, -most, most), check.Range(x.B, -most, most))
}

// checkTurn returns ErrRange for sixths that are too many.
func checkTurn(sixths int) api.Errno {
	return check.Range(sixths, -MaxTurn, MaxTurn)
}

// Add returns the sum of two numbers.
func Add(a, b api.Eisen) (api.Eisen, api.Errno) {
	if e := check.First(CheckEisen(a), CheckEisen(b)); e != api.OK {
		return api.Eisen{}, e
	}
	return limited(eisen.Sum(a, b))
}

// Mul returns the product of two numbers.
func Mul(a, b api.Eisen) (api.Eisen, api.Errno) {
	if e := check.First(CheckEisen(a), CheckEisen(b)); e != api.OK {
		return api.Eisen{}, e
	}
	return limited(eisen.Product(a, b))
}

// Turned returns a number turned by some sixths.
func Turned(x api.Eisen, sixths int) (api.Eisen, api.Errno) {
	if e := check.First(CheckEisen(x), checkTurn(sixths)); e != api.OK {
		return api.Eisen{}, e
	}
	return limited(turn(x, sixths))
}

// Norm returns the norm of a number.
func Norm(x api.Eisen) (int, api.Errno) {
	if e := CheckEisen(x); e != api.OK {
		return 0, e
	}
	return eisen.Norm(x), api.OK
}

// Framed returns a list in a frame that turns.
func Framed(l []api.Eisen, sixths int) ([]api.Eisen, api.Errno) {
	if e := check.First(check.List(l, api.MaxList, CheckEisen), checkTurn(sixths)); e != api.OK {
		return nil, e
	}
	framed := make([]api.Eisen, len(l))
	for i, x := range l {
		y, e := limited(turn(x, -sixths*i))
		if e != api.OK {
			return nil, e
		}
		framed[i] = y
	}
	return framed, api.OK
}

// limited returns a result, or ErrLarge if the limits of its parts change it.
func limited(x api.Eisen) (api.Eisen, api.Errno) {
	within := api.Eisen{A: whole.Clamped(x.A, api.MaxPart), B: whole.Clamped(x.B, api.MaxPart)}
	if within != x {
		return api.Eisen{}, api.ErrLarge
	}
	return x, api.OK
}

// turn returns a number turned by some sixths. Six of them are none, so it
// never counts more than five.
func turn(x api.Eisen, sixths int) api.Eisen {
	for range whole.Remainder(sixths, 6) {
		x = api.Eisen{A: x.A - x.B, B: x.A}
	}
	return x
}
