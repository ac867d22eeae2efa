package harmonic

import (
	"cmp"

	"bipole/api"
	"bipole/check"
	"bipole/eisen"
	"bipole/phasor"
	"bipole/whole"
)

// powers is the powers of the root, from the power of 0 on.
var powers = [Steps]Cyclo{
	{Re: api.Eisen{A: 1, B: 0}},
	{Im: api.Eisen{A: 0, B: -1}},
	{Re: api.Eisen{A: 1, B: 1}},
	{Im: api.Eisen{A: 1, B: 0}},
	{Re: api.Eisen{A: 0, B: 1}},
	{Im: api.Eisen{A: 1, B: 1}},
	{Re: api.Eisen{A: -1, B: 0}},
	{Im: api.Eisen{A: 0, B: 1}},
	{Re: api.Eisen{A: -1, B: -1}},
	{Im: api.Eisen{A: -1, B: 0}},
	{Re: api.Eisen{A: 0, B: -1}},
	{Im: api.Eisen{A: -1, B: -1}},
}

// checkNumber returns the error of a number of the ring, or OK.
func checkNumber(x Cyclo) api.Errno {
	return check.First(phasor.CheckEisen(x.Re), phasor.CheckEisen(x.Im))
}

// checkTurn returns ErrRange for steps that are too many.
func checkTurn(n int) api.Errno {
	return check.Range(n, -MaxTurn, MaxTurn)
}

// Product returns the product of two numbers of the ring.
func Product(x, y Cyclo) (Cyclo, api.Errno) {
	if e := check.First(checkNumber(x), checkNumber(y)); e != api.OK {
		return Cyclo{}, e
	}
	return product(x, y), api.OK
}

func product(x, y Cyclo) Cyclo {
	squared := eisen.Product(x.Im, y.Im)
	return Cyclo{
		Re: eisen.Sum(eisen.Product(x.Re, y.Re), api.Eisen{A: -squared.A, B: -squared.B}),
		Im: eisen.Sum(eisen.Product(x.Re, y.Im), eisen.Product(x.Im, y.Re)),
	}
}

func sum(x, y Cyclo) Cyclo {
	return Cyclo{Re: eisen.Sum(x.Re, y.Re), Im: eisen.Sum(x.Im, y.Im)}
}

// Turned returns a number that is turned by n.
func Turned(x Cyclo, n int) (Cyclo, api.Errno) {
	if e := check.First(checkNumber(x), checkTurn(n)); e != api.OK {
		return Cyclo{}, e
	}
	return turned(x, n), api.OK
}

func turned(x Cyclo, n int) Cyclo {
	return product(x, powers[whole.Remainder(n, Steps)])
}

// Strength returns the strength of a number.
func Strength(x Cyclo) (Root, api.Errno) {
	if e := checkNumber(x); e != api.OK {
		return Root{}, e
	}
	return strength(x), api.OK
}

// strength needs no product of the ring. The product with the conjugate is the
// sum of both norms, and i times what Im times the conjugate of Re differs from
// its own conjugate by: B (1 + 2 w), which is B i r.
func strength(x Cyclo) Root {
	mixed := eisen.Product(x.Im, eisen.Conjugate(x.Re))
	return Root{A: eisen.Norm(x.Re) + eisen.Norm(x.Im), B: -mixed.B}
}

// Sign returns the sign of a root number.
func Sign(x Root) (int, api.Errno) {
	if e := check.First(check.Range(x.A, -MaxRoot, MaxRoot), check.Range(x.B, -MaxRoot, MaxRoot)); e != api.OK {
		return 0, e
	}
	return sign(x), api.OK
}

// sign asks for the squares only where A and B pull to different sides.
func sign(x Root) int {
	a, b := cmp.Compare(x.A, 0), cmp.Compare(x.B, 0)
	if a == -b && x.A*x.A > 3*x.B*x.B {
		return a
	}
	return cmp.Or(b, a)
}

// isGreater reports whether a root number is greater than another one.
func isGreater(x, y Root) bool {
	return sign(Root{A: x.A - y.A, B: x.B - y.B}) > 0
}

// times returns a root number, multiplied by n.
func times(n int, x Root) Root {
	return Root{A: n * x.A, B: n * x.B}
}
