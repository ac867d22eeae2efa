package harmonic_test

import (
	"math"
	"math/rand"
	"testing"

	"bipole/api"
	"bipole/harmonic"
)

// anyInt returns an integer, often one at the end of a range.
func anyInt(r *rand.Rand) int {
	ends := []int{0, 1, 6, 8, 12, 16, 50, 100, 256, 1000, 2000, 100000, part, most, math.MaxInt32, math.MaxInt}
	n := ends[r.Intn(len(ends))] + r.Intn(3) - 1
	if r.Intn(3) == 0 {
		n = -n - 1
	}
	return n
}

// anyList returns a list of up to 300 elements.
func anyList[T any](r *rand.Rand, element func(*rand.Rand) T) []T {
	l := make([]T, r.Intn([]int{2, 5, 14, 300}[r.Intn(4)]))
	for i := range l {
		l[i] = element(r)
	}
	return l
}

func anyNumber(r *rand.Rand) harmonic.Cyclo { return z(anyInt(r), anyInt(r), anyInt(r), anyInt(r)) }

func anyGauss(r *rand.Rand) api.Gauss { return g(anyInt(r), anyInt(r)) }

func anyBranch(r *rand.Rand) harmonic.Branch {
	return harmonic.Branch{L: anyInt(r), C: anyInt(r)}
}

func anyFloat(r *rand.Rand) float32 { return math.Float32frombits(r.Uint32()) }

func anyByte(r *rand.Rand) byte { return "branch 019-\n"[r.Intn(12)] }

// anyFilter returns a filter, or branches from anywhere.
func anyFilter(r *rand.Rand) harmonic.Filter {
	if r.Intn(3) == 0 {
		return harmonic.Filter{Branches: anyList(r, anyBranch)}
	}
	return randomFilter(r)
}

// anyPolygon returns a polygon, or corners from anywhere.
func anyPolygon(r *rand.Rand) []api.Gauss {
	if r.Intn(3) == 0 {
		return anyList(r, anyGauss)
	}
	return randomPolygon(r, 1000)
}

// anyOrders returns orders, or integers from anywhere.
func anyOrders(r *rand.Rand) []int {
	if r.Intn(2) == 0 {
		return anyList(r, anyInt)
	}
	return randomOrders(r)
}

// P1: every function returns, whatever its arguments are.
func TestAnyPatterns(t *testing.T) {
	r := rand.New(rand.NewSource(11))
	for n := range 2000 {
		p := pattern(anyList12(r, anyInt))
		if n%2 == 0 {
			p = randomPattern(r, 100)
		}
		limits := [7]int(anyList12(r, anyInt))
		x, y := anyNumber(r), anyNumber(r)
		harmonic.Product(x, y)
		harmonic.Turned(x, anyInt(r))
		harmonic.Turned(randomNumber(r, part), anyInt(r))
		harmonic.Strength(x)
		harmonic.Sign(harmonic.Root{A: anyInt(r), B: anyInt(r)})
		harmonic.Spectrum(p)
		harmonic.Back(spectrum(anyList12(r, anyNumber)))
		harmonic.Quarters(p)
		harmonic.Eliminated(p)
		harmonic.Excess(p, limits)
		harmonic.Delayed(p, anyInt(r))
		harmonic.Quarter([3]int{anyInt(r), anyInt(r), anyInt(r)})
		harmonic.Design(anyInt(r), limits)
		harmonic.Record(p, anyInt(r))
		harmonic.Levels(anyList(r, anyFloat))
		harmonic.Levels(anyList12(r, anyFloat))
	}
}

// anyList12 returns a list of twelve elements.
func anyList12[T any](r *rand.Rand, element func(*rand.Rand) T) []T {
	var l []T
	for range 12 {
		l = append(l, element(r))
	}
	return l
}

// P1: every function returns, whatever its arguments are.
func TestAnyFilters(t *testing.T) {
	r := rand.New(rand.NewSource(12))
	for range 20000 {
		f, l, h := anyFilter(r), anyPolygon(r), anyInt(r)
		harmonic.CheckFilter(f)
		harmonic.Susceptance(f, h)
		harmonic.Resonances(f)
		harmonic.Tapped(f, anyInt(r), anyInt(r))
		harmonic.CheckPolygon(l)
		harmonic.Inside(l, anyGauss(r))
		harmonic.Extreme(l, anyGauss(r))
		harmonic.Meets(f, l, h)
		harmonic.Edge(f, l, h)
		harmonic.CheckEdge(f, l, h, anyInt(r))
		harmonic.Avoid(f, anyInt(r), l, anyOrders(r))
		harmonic.Print(f)
	}
}

// P1: every function returns, whatever its arguments are.
func TestAnyTexts(t *testing.T) {
	r := rand.New(rand.NewSource(13))
	for range 5000 {
		s := anyList(r, func(r *rand.Rand) byte { return byte(r.Intn(256)) })
		harmonic.Parse(string(s))
		harmonic.Parse("branch " + string(s))
		harmonic.Parse("branch 1 9\nbranch 1 " + string(anyList(r, anyByte)))
		bad := []byte(text)
		bad[r.Intn(len(bad))] = anyByte(r)
		harmonic.Parse(string(bad))
		harmonic.Parse(string(bad[:r.Intn(len(bad))]))
	}
}

// P1: the greatest numbers on the way are not too large for an integer.
func TestGreatestNumbers(t *testing.T) {
	f := filter([2]int{50, 1}, [2]int{50, 7}, [2]int{50, 11})
	l := all()
	for h := 1; h <= 12; h++ {
		meets, e := harmonic.Meets(f, l, h)
		is(t, "meets the greatest polygon", meets, true)
		is(t, "meets the greatest polygon", e, api.OK)
	}
	for k, away := range [][]api.Gauss{
		{g(-1000, 999), g(1000, 999), g(1000, 1000)}, {g(1000, 1000), g(-1000, 999), g(1000, 999)}, {g(1000, 999), g(1000, 1000), g(-1000, 999)},
		{g(-1000, -1000), g(1000, -1000), g(1000, -999)}, {g(999, -1000), g(1000, -1000), g(999, 1000)}, {g(-1000, 1000), g(-1000, -1000), g(-999, 1000)},
	} {
		edge, e := harmonic.Edge(f, away, 12)
		is(t, "the edge of a polygon that is far away", edge, []int{0, 1, 2, 2, 2, 1}[k])
		is(t, "the edge of a polygon that is far away", e, api.OK)
	}
}
