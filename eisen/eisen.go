// Package eisen has what the layers compute with Eisenstein integers. No part
// of a number has a limit here.
package eisen

import "bipole/api"

// Sum returns the sum of two numbers.
func Sum(a, b api.Eisen) api.Eisen {
	return api.Eisen{A: a.A + b.A, B: a.B + b.B}
}

// Product returns the product of two numbers.
func Product(a, b api.Eisen) api.Eisen {
	return api.Eisen{A: a.A*b.A - a.B*b.B, B: a.A*b.B + a.B*b.A - a.B*b.B}
}

// Conjugate returns a number with w squared in place of w.
func Conjugate(x api.Eisen) api.Eisen {
	return api.Eisen{A: x.A - x.B, B: -x.B}
}

// Norm returns the product of a number and its conjugate.
func Norm(x api.Eisen) int {
	return x.A*x.A - x.A*x.B + x.B*x.B
}
