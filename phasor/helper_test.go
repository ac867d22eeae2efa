package phasor_test

import (
	"math"
	"math/rand"
	"slices"
	"testing"

	"bipole/api"
	"bipole/phasor"
)

// same fails a test if a result is not the expected one.
func same[T comparable](t *testing.T, what string, got, want T) {
	t.Helper()
	if got != want {
		t.Errorf("%s: got %v, want %v", what, got, want)
	}
}

// sameList fails a test if a list is not the expected one; nil and empty lists are equal.
func sameList[T comparable](t *testing.T, what string, got, want []T) {
	t.Helper()
	if !slices.Equal(got, want) {
		t.Errorf("%s: got %v, want %v", what, got, want)
	}
}

// sameRecord fails a test if a record is not the expected one.
func sameRecord(t *testing.T, what string, got, want phasor.Record) {
	t.Helper()
	same(t, what+": name", got.Name, want.Name)
	sameList(t, what+": samples", got.Samples, want.Samples)
}

// z returns the number a + b w.
func z(a, b int) api.Eisen { return api.Eisen{A: a, B: b} }

// beyond returns integers that are outside of the range from -most to most.
func beyond(most int) []int {
	return []int{most + 1, -most - 1, 1 << 40, -1 << 40, math.MaxInt, math.MinInt}
}

// plus, times and sixth are the definitions of the chapter, written once more.
func plus(x, y api.Eisen) api.Eisen { return z(x.A+y.A, x.B+y.B) }

func times(x, y api.Eisen) api.Eisen {
	return z(x.A*y.A-x.B*y.B, x.A*y.B+x.B*y.A-x.B*y.B)
}

func conj(x api.Eisen) api.Eisen { return z(x.A-x.B, -x.B) }

func norm(x api.Eisen) int { return x.A*x.A - x.A*x.B + x.B*x.B }

func sixth(x api.Eisen, n int) api.Eisen {
	for ; n < 0; n += 6 {
	}
	for n %= 6; n > 0; n-- {
		x = times(x, z(1, 1))
	}
	return x
}

// checksum is the definition of the chapter, written once more.
func checksum(s []byte) int {
	x := 1
	for _, b := range s {
		x = (263*x + int(b)) % 16777199
	}
	return x
}

// seal appends four bytes of a number to bytes: of their checksum and some more.
func seal(s []byte, more int) []byte {
	n := checksum(s) + more
	return append(slices.Clone(s), byte(n>>24), byte(n>>16), byte(n>>8), byte(n))
}

// numbers returns n numbers with parts from -most to most.
func numbers(r *rand.Rand, n, most int) []api.Eisen {
	l := make([]api.Eisen, n)
	for i := range l {
		l[i] = z(r.Intn(2*most+1)-most, r.Intn(2*most+1)-most)
	}
	return l
}

// telegrams returns n telegrams with numbers from all of their ranges.
func telegrams(r *rand.Rand, n int) []phasor.Telegram {
	l := make([]phasor.Telegram, n)
	for i := range l {
		l[i] = phasor.Telegram{Source: r.Intn(256), Counter: r.Intn(65536)}
		for k := range l[i].Values {
			l[i].Values[k] = r.Intn(65536) - 32768
		}
	}
	return l
}

// samples returns n samples.
func samples(r *rand.Rand, n int) []float32 {
	l := make([]float32, n)
	for i := range l {
		l[i] = float32(r.Intn(32769)-16384) / 16
	}
	return l
}

var (
	nan     = float32(math.NaN())
	inf     = float32(math.Inf(1))
	negZero = float32(math.Copysign(0, -1))
)
