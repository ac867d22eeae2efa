package harmonic_test

import (
	"fmt"
	"math/rand"
	"testing"

	"bipole/api"
	"bipole/harmonic"
)

const (
	part = 1 << 20
	most = 1 << 30
)

// outside returns numbers of which one integer is not from -most to most, and all
// others are n.
func outside(most, n int) []harmonic.Cyclo {
	var l []harmonic.Cyclo
	for _, bad := range beyond(-most, most) {
		l = append(l, z(bad, n, n, n), z(n, bad, n, n), z(n, n, bad, n), z(n, n, n, bad))
	}
	return l
}

// P4.1
func TestProduct(t *testing.T) {
	one, root, i, w := z(1, 0, 0, 0), z(0, 0, 0, -1), z(0, 0, 1, 0), z(0, 1, 0, 0)
	for _, x := range []struct{ x, y, product harmonic.Cyclo }{
		{root, root, z(1, 1, 0, 0)}, {i, i, z(-1, 0, 0, 0)}, {w, w, z(-1, -1, 0, 0)}, {i, w, z(0, 0, 0, 1)}, {z(1, 2, 3, 0), w, z(-2, -1, 0, 3)}, {z(1, 2, 0, 0), z(3, -1, 0, 0), z(5, 7, 0, 0)},
		{one, z(4, -5, 6, -7), z(4, -5, 6, -7)}, {z(4, -5, 6, -7), harmonic.Cyclo{}, harmonic.Cyclo{}}, {z(0, 0, 1, 2), z(0, 0, 1, 2), z(3, 0, 0, 0)},
		{z(part, 0, 0, 0), z(part, 0, 0, 0), z(part*part, 0, 0, 0)}, {z(0, 0, -part, 0), z(0, 0, part, 0), z(part*part, 0, 0, 0)}, {z(part, -part, 0, 0), z(part, -part, 0, 0), z(0, -3*part*part, 0, 0)},
		{z(part, -part, -part, part), z(part, -part, part, -part), z(0, -6*part*part, 0, 0)}, {z(part, part, part, part), z(part, part, part, part), z(0, 0, 0, 2*part*part)},
	} {
		for _, l := range [][2]harmonic.Cyclo{{x.x, x.y}, {x.y, x.x}} {
			product, e := harmonic.Product(l[0], l[1])
			is(t, fmt.Sprint("the product of ", l), product, x.product)
			is(t, fmt.Sprint("the product of ", l), e, api.OK)
		}
	}
}

// P4.1: the product is that of the powers of the root.
func TestProductOfMany(t *testing.T) {
	r := rand.New(rand.NewSource(411))
	for n := range 5000 {
		size := []int{1, 9, part}[n%3]
		x, y := randomNumber(r, size), randomNumber(r, size)
		product, e := harmonic.Product(x, y)
		is(t, fmt.Sprint("the product of ", x, y), product, ringOf(x).times(ringOf(y)).number())
		is(t, fmt.Sprint("the product of ", x, y), e, api.OK)
	}
}

// P4.1
func TestErrorsOfNumbers(t *testing.T) {
	for _, n := range []int{0, part, -part} {
		for _, bad := range outside(part, n) {
			what := fmt.Sprint(bad)
			x, e := harmonic.Product(bad, z(n, n, n, n))
			is(t, "the product of "+what, x, harmonic.Cyclo{})
			is(t, "the product of "+what, e, api.ErrRange)
			x, e = harmonic.Product(z(n, n, n, n), bad)
			is(t, "the product with "+what, x, harmonic.Cyclo{})
			is(t, "the product with "+what, e, api.ErrRange)
			x, e = harmonic.Turned(bad, 0)
			is(t, "turned: "+what, x, harmonic.Cyclo{})
			is(t, "turned: "+what, e, api.ErrRange)
			s, e := harmonic.Strength(bad)
			is(t, "the strength of "+what, s, harmonic.Root{})
			is(t, "the strength of "+what, e, api.ErrRange)
		}
	}
	for _, n := range beyond(-100000, 100000) {
		x, e := harmonic.Turned(z(1, 0, 0, 0), n)
		is(t, fmt.Sprint("turned by ", n), x, harmonic.Cyclo{})
		is(t, fmt.Sprint("turned by ", n), e, api.ErrRange)
	}
}

// P4.1: the powers of the root.
func TestTurned(t *testing.T) {
	powers := []harmonic.Cyclo{z(1, 0, 0, 0), z(0, 0, 0, -1), z(1, 1, 0, 0), z(0, 0, 1, 0), z(0, 1, 0, 0), z(0, 0, 1, 1), z(-1, 0, 0, 0), z(0, 0, 0, 1), z(-1, -1, 0, 0), z(0, 0, -1, 0), z(0, -1, 0, 0), z(0, 0, -1, -1)}
	for n, power := range powers {
		for _, more := range []int{0, 12, -12, 24, 99984, -99996} {
			x, e := harmonic.Turned(powers[0], n+more)
			is(t, fmt.Sprint("the power ", n+more), x, power)
			is(t, fmt.Sprint("the power ", n+more), e, api.OK)
		}
	}
	for n, want := range map[int]harmonic.Cyclo{100000: powers[4], -100000: powers[8], 99999: powers[3], -99999: powers[9]} {
		x, e := harmonic.Turned(powers[0], n)
		is(t, fmt.Sprint("the power ", n), x, want)
		is(t, fmt.Sprint("the power ", n), e, api.OK)
	}
	x, e := harmonic.Turned(z(part, -part, -part, part), 4)
	is(t, "turned above the range of the argument", x, z(part, 2*part, -part, -2*part))
	is(t, "turned above the range of the argument", e, api.OK)
}

// P4.1
func TestTurnedMany(t *testing.T) {
	r := rand.New(rand.NewSource(412))
	for range 2000 {
		x, n := randomNumber(r, part), between(r, -100000, 100000)
		turned, e := harmonic.Turned(x, n)
		is(t, fmt.Sprint(x, " turned by ", n), turned, ringOf(x).turned(n).number())
		is(t, fmt.Sprint(x, " turned by ", n), e, api.OK)
	}
}

// P4.1
func TestStrength(t *testing.T) {
	for x, want := range map[harmonic.Cyclo]harmonic.Root{
		z(0, 0, 0, 0):               {},
		z(1, 0, 1, 0):               {A: 2},
		z(1, 0, 0, 1):               {A: 2, B: -1},
		z(1, 0, 0, -1):              {A: 2, B: 1},
		z(0, 1, 1, 0):               {A: 2, B: 1},
		z(-2, -4, -4, -2):           {A: 24, B: 12},
		z(3, 5, 0, 0):               {A: 19},
		z(0, 0, 3, 5):               {A: 19},
		z(part, -part, -part, part): {A: 6 * part * part},
		z(part, 0, 0, -part):        {A: 2 * part * part, B: part * part},
		z(part, -part, part, 0):     {A: 4 * part * part, B: -part * part},
		z(part, -part, 0, part):     {A: 4 * part * part, B: -part * part},
		z(-part, part, part, part):  {A: 4 * part * part, B: 2 * part * part},
	} {
		s, e := harmonic.Strength(x)
		is(t, fmt.Sprint("the strength of ", x), s, want)
		is(t, fmt.Sprint("the strength of ", x), e, api.OK)
	}
}

// P4.1: the strength is the product with the conjugate.
func TestStrengthOfMany(t *testing.T) {
	r := rand.New(rand.NewSource(413))
	for n := range 5000 {
		x := randomNumber(r, []int{1, 9, part}[n%3])
		s, e := harmonic.Strength(x)
		is(t, fmt.Sprint("the strength of ", x), s, strengthOf(t, x))
		is(t, fmt.Sprint("the strength of ", x), e, api.OK)
	}
}

// isSign fails a test if a root number, or its opposite, does not have a sign.
func isSign(t *testing.T, a, b, want int) {
	t.Helper()
	for _, n := range []int{1, -1} {
		sign, e := harmonic.Sign(harmonic.Root{A: n * a, B: n * b})
		is(t, fmt.Sprint("the sign of ", n*a, ", ", n*b), sign, n*want)
		is(t, fmt.Sprint("the sign of ", n*a, ", ", n*b), e, api.OK)
	}
}

// P4.1
func TestSign(t *testing.T) {
	for _, x := range [][3]int{
		{0, 0, 0}, {1, 0, 1}, {0, 1, 1}, {1, 1, 1}, {1, -1, -1}, {2, -1, 1}, {7, -4, 1}, {12, -7, -1}, {5, -3, -1}, {26, -15, 1},
		{most, -most, -1}, {most, most, 1}, {most, 0, 1}, {0, most, 1}, {most, -1, 1}, {1, -most, -1}, {most, -most / 2, 1}, {most, -619925131, 1}, {most, -619925132, -1},
	} {
		isSign(t, x[0], x[1], x[2])
	}
	for a := -60; a <= 60; a++ {
		for b := -60; b <= 60; b++ {
			isSign(t, a, b, signOf(a, b))
		}
	}
}

// P4.1: no integers come nearer to the root of 3 than those of which A squared is
// 3 B squared and 1, or less 2.
func TestSignOfTheNearest(t *testing.T) {
	count := 0
	for a, b := 2, 1; a <= most; a, b = 2*a+3*b, a+2*b {
		isSign(t, a, -b, 1)
		isSign(t, a-1, -b, -1)
		count++
	}
	for a, b := 1, 1; a <= most; a, b = 2*a+3*b, a+2*b {
		isSign(t, a, -b, -1)
		count++
	}
	if count < 30 {
		t.Errorf("only %d root numbers are near to 0", count)
	}
	r := rand.New(rand.NewSource(414))
	for range 5000 {
		b := between(r, -619925131, 619925131)
		a := -int(float64(b)*1.7320508075688772) + between(r, -2, 2)
		isSign(t, a, b, signOf(a, b))
	}
}

// P4.1
func TestErrorsOfSign(t *testing.T) {
	for _, n := range beyond(-most, most) {
		for _, x := range []harmonic.Root{{A: n}, {B: n}, {A: n, B: n}, {A: most, B: n}, {A: n, B: -most}} {
			sign, e := harmonic.Sign(x)
			is(t, fmt.Sprint("the sign of ", x), sign, 0)
			is(t, fmt.Sprint("the sign of ", x), e, api.ErrRange)
		}
	}
}
