package eisen_test

import (
	"math/rand"
	"testing"

	"bipole/api"
	"bipole/eisen"
)

// is fails a test if a result is not the expected one.
func is[T comparable](t *testing.T, what string, got, want T) {
	t.Helper()
	if got != want {
		t.Errorf("%s: got %v, want %v", what, got, want)
	}
}

func z(a, b int) api.Eisen { return api.Eisen{A: a, B: b} }

// P1.2, P4.1
func TestNumbers(t *testing.T) {
	w := z(0, 1)
	is(t, "the sum", eisen.Sum(z(1, 2), z(3, -5)), z(4, -3))
	is(t, "the product", eisen.Product(z(1, 2), z(3, -1)), z(5, 7))
	is(t, "w squared", eisen.Product(w, w), z(-1, -1))
	is(t, "w to the power of 3", eisen.Product(w, eisen.Product(w, w)), z(1, 0))
	is(t, "the conjugate of w", eisen.Conjugate(w), z(-1, -1))
	is(t, "the conjugate", eisen.Conjugate(z(3, -1)), z(4, 1))
	is(t, "the norm", eisen.Norm(z(3, -1)), 13)
	is(t, "the norm of w", eisen.Norm(w), 1)
	is(t, "the norm of 0", eisen.Norm(z(0, 0)), 0)
}

// P1.2, P4.1: norms are products with the conjugate, and multiply; no part has a
// limit.
func TestNormsOfMany(t *testing.T) {
	r := rand.New(rand.NewSource(1))
	for range 1000 {
		x, y := z(r.Intn(65537)-32768, r.Intn(65537)-32768), z(r.Intn(65537)-32768, r.Intn(65537)-32768)
		is(t, "the norm", z(eisen.Norm(x), 0), eisen.Product(x, eisen.Conjugate(x)))
		is(t, "the product", eisen.Product(x, y), eisen.Product(y, x))
		is(t, "the conjugate of the conjugate", eisen.Conjugate(eisen.Conjugate(x)), x)
		small := z(x.A%1000, x.B%1000)
		is(t, "the norm of the product", eisen.Norm(eisen.Product(x, small)), eisen.Norm(x)*eisen.Norm(small))
	}
}
