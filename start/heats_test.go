package start_test

import (
	"fmt"
	"math"
	"math/rand"
	"slices"
	"testing"

	"bipole/api"
	"bipole/start"
)

// cooling returns a cooling.
func cooling(outside, gain, loss, limit int) start.Cooling {
	return start.Cooling{Outside: outside, Gain: gain, Loss: loss, Limit: limit}
}

// oil is the cooling of the chapter's examples.
var oil = cooling(320, 64, 128, 640)

// heat returns the sample of sixteenths.
func heat(n int) float32 {
	return float32(n) / 16
}

// heatsOf returns the samples of sixteenths.
func heatsOf(l ...int) []float32 {
	var heats []float32
	for _, n := range l {
		heats = append(heats, heat(n))
	}
	return heats
}

// badSamples are numbers that are no samples, with their errors.
func badSamples() map[api.Errno][]float32 {
	inf := float32(math.Inf(1))
	return map[api.Errno][]float32{
		api.ErrForm:  {float32(math.NaN()), inf, -inf},
		api.ErrRange: {1024.0625, -1024.0625, 1025, 1.0 / 32, -0.1, 3e38, -3e38, 1e-40},
	}
}

// badHeats are numbers that are no heats up to a limit, with their errors.
func badHeats(limit int) map[api.Errno][]float32 {
	l := badSamples()
	l[api.ErrRange] = append(l[api.ErrRange], -0.0625, -1, -1024, heat(limit+1), heat(limit)+0.03125)
	return l
}

// eachBadCooling calls a function with coolings and with the error that they have.
func eachBadCooling(f func(what string, c start.Cooling, e api.Errno)) {
	call := func(c start.Cooling, e api.Errno) { f(fmt.Sprint("the cooling ", c), c, e) }
	for _, n := range beyond(0, 16384) {
		call(cooling(n, 64, 128, 640), api.ErrRange)
		call(cooling(320, 64, 128, n), api.ErrRange)
		call(cooling(n, -1, 1025, n), api.ErrRange)
	}
	for _, n := range beyond(0, 1024) {
		call(cooling(320, n, 128, 640), api.ErrRange)
		call(cooling(320, 64, n, 640), api.ErrRange)
		call(cooling(320, n, n, 319), api.ErrRange)
		call(cooling(320, 64, n, 319), api.ErrRange)
	}
	call(cooling(320, 64, 128, 319), api.ErrOrder)
	call(cooling(1, 0, 0, 0), api.ErrOrder)
	call(cooling(16384, 1024, 1024, 16383), api.ErrOrder)
	call(cooling(16384, 1024, 1024, 0), api.ErrOrder)
}

// P8.4
func TestCheckCooling(t *testing.T) {
	eachBadCooling(func(what string, c start.Cooling, e api.Errno) {
		is(t, what, start.CheckCooling(c), e)
	})
	for _, c := range []start.Cooling{{}, oil, cooling(0, 1024, 1024, 16384), cooling(16384, 0, 0, 16384), cooling(320, 1, 1, 320)} {
		is(t, fmt.Sprint(c), start.CheckCooling(c), api.OK)
	}
}

// badPowers returns powers with each error.
func badPowers() map[api.Errno][][]int {
	l := map[api.Errno][][]int{api.ErrMany: {make([]int, 257), slices.Repeat([]int{-1}, 1000)}}
	for _, n := range beyond(0, 1000) {
		l[api.ErrRange] = append(l[api.ErrRange], []int{n}, []int{0, 1000, n, 5}, []int{1000, 1000, n})
	}
	return l
}

// areHeats fails a test if the heats after powers, or the error and its index, are
// not the expected ones.
func areHeats(t *testing.T, c start.Cooling, from float32, powers []int, want []float32, index int, wanted api.Errno) {
	t.Helper()
	what := brief(c, " from ", from, " on by ", powers)
	heats, at, e := start.Heat(c, from, powers)
	isList(t, what, heats, want)
	is(t, what+": index", at, index)
	is(t, what, e, wanted)
}

// P8.4: the cooling, the heat and the powers are asked for in this order.
func TestBadHeat(t *testing.T) {
	eachBadCooling(func(_ string, c start.Cooling, e api.Errno) {
		for _, x := range []float32{0, 20, -1, float32(math.NaN())} {
			areHeats(t, c, x, nil, nil, 0, e)
			areHeats(t, c, x, []int{5, -1}, nil, 0, e)
		}
	})
	for e, l := range badHeats(640) {
		for _, x := range l {
			areHeats(t, oil, x, nil, nil, 0, e)
			areHeats(t, oil, x, []int{1000, -1}, nil, 0, e)
			areHeats(t, oil, x, make([]int, 257), nil, 0, e)
		}
	}
	for e, l := range badHeats(16384) {
		for _, x := range l {
			areHeats(t, cooling(320, 64, 128, 16384), x, nil, nil, 0, e)
		}
	}
	for e, l := range badPowers() {
		for _, powers := range l {
			areHeats(t, oil, 20, powers, nil, 0, e)
			areHeats(t, oil, 40, powers, nil, 0, e)
		}
	}
}

// P8.4: what is divided is rounded down, also below 0.
func TestHeat(t *testing.T) {
	zero := float32(math.Copysign(0, -1))
	for _, x := range []struct {
		c      start.Cooling
		from   float32
		powers []int
		want   []float32
	}{
		{oil, 20, []int{80, 80, 80}, heatsOf(325, 329, 332)}, {oil, 20, nil, nil}, {oil, 20, []int{0, 0}, heatsOf(320, 320)}, {oil, 0, []int{0, 0, 0}, heatsOf(40, 75, 105)}, {oil, zero, []int{0}, heatsOf(40)}, {oil, 40, []int{0, 0}, heatsOf(600, 565)}, {oil, 40, []int{640}, heatsOf(640)}, {oil, heat(321), []int{0}, heatsOf(320)}, {oil, heat(319), []int{0}, heatsOf(319)}, {oil, heat(312), []int{0}, heatsOf(313)},
		{cooling(320, 1024, 0, 16384), 0, []int{1000, 999, 1}, heatsOf(1000, 1999, 2000)}, {cooling(320, 0, 1024, 640), 0, []int{1000, 7}, heatsOf(320, 320)}, {cooling(320, 0, 1024, 640), 40, []int{1000, 7}, heatsOf(320, 320)}, {cooling(0, 1, 0, 5), 0, []int{1000, 1000}, heatsOf(0, 0)}, {cooling(0, 2, 0, 5), 0, []int{511, 512, 513}, heatsOf(0, 1, 2)}, {cooling(0, 0, 1, 5), heat(5), []int{0, 0}, heatsOf(4, 3)}, {cooling(16384, 0, 1024, 16384), 1024, []int{1000}, heatsOf(16384)}, {cooling(16384, 0, 1024, 16384), 0, []int{1000}, heatsOf(16384)},
	} {
		areHeats(t, x.c, x.from, x.powers, x.want, 0, api.OK)
	}
	areHeats(t, oil, 38, []int{1000, 1000}, nil, 1, api.ErrBand)
	areHeats(t, oil, 40, []int{656}, nil, 0, api.ErrBand)
	areHeats(t, oil, heat(616), []int{1000}, nil, 0, api.ErrBand)
	areHeats(t, oil, heat(615), []int{1000}, heatsOf(640), 0, api.OK)
	areHeats(t, oil, 40, []int{655, 655}, heatsOf(640, 640), 0, api.OK)
	areHeats(t, oil, 40, slices.Concat(slices.Repeat([]int{655}, 255), []int{656}), nil, 255, api.ErrBand)
	most, _, e := start.Heat(oil, 20, slices.Repeat([]int{80}, 256))
	is(t, "256 powers", len(most), 256)
	is(t, "256 powers", e, api.OK)
}

// nextOf returns the next heat of a heat in sixteenths, by the definition.
func nextOf(c start.Cooling, n, power int) int {
	change := float64(c.Gain)*float64(power) - float64(c.Loss)*float64(n-c.Outside)
	return n + int(math.Floor(change/1024))
}

// randomCooling returns a cooling with often a small gain, and a large loss.
func randomCooling(r *rand.Rand) start.Cooling {
	c := cooling(r.Intn(2000), r.Intn([]int{64, 1025}[r.Intn(2)]), r.Intn([]int{100, 1025}[r.Intn(2)]), 0)
	c.Limit = c.Outside + r.Intn([]int{300, 3000, 14385}[r.Intn(3)])
	return c
}

// P8.4: heats are those of the definition.
func TestHeatsOfMany(t *testing.T) {
	r := rand.New(rand.NewSource(841))
	seen := map[api.Errno]int{}
	for range 5000 {
		c := randomCooling(r)
		from := r.Intn(c.Limit + 1)
		powers := make([]int, r.Intn(10))
		most := []int{100, 1000}[r.Intn(2)]
		for i := range powers {
			powers[i] = r.Intn(most + 1)
		}
		var want []float32
		index, wanted := 0, api.OK
		for i, n := 0, from; i < len(powers) && wanted == api.OK; i++ {
			if n = nextOf(c, n, powers[i]); n > c.Limit {
				want, index, wanted = nil, i, api.ErrBand
			} else {
				want = append(want, heat(n))
			}
		}
		areHeats(t, c, heat(from), powers, want, index, wanted)
		seen[wanted]++
	}
	if seen[api.OK] < 1000 || seen[api.ErrBand] < 300 {
		t.Errorf("the errors are %v", seen)
	}
}

// isSettled fails a test if the heat at which a power settles is not the expected one.
func isSettled(t *testing.T, c start.Cooling, power int, want float32, wanted api.Errno) {
	t.Helper()
	x, e := start.Settled(c, power)
	is(t, fmt.Sprint(power, " in ", c), x, want)
	is(t, fmt.Sprint(power, " in ", c), e, wanted)
}

// P8.4
func TestSettled(t *testing.T) {
	eachBadCooling(func(_ string, c start.Cooling, e api.Errno) {
		isSettled(t, c, 80, 0, e)
		isSettled(t, c, -1, 0, e)
	})
	for _, n := range beyond(0, 1000) {
		isSettled(t, oil, n, 0, api.ErrRange)
		isSettled(t, cooling(0, 1024, 0, 0), n, 0, api.ErrRange)
	}
	isSettled(t, oil, 80, heat(353), api.OK)
	isSettled(t, oil, 0, heat(320), api.OK)
	isSettled(t, oil, 15, heat(320), api.OK)
	isSettled(t, oil, 16, heat(321), api.OK)
	isSettled(t, oil, 655, heat(640), api.OK)
	isSettled(t, oil, 656, 0, api.ErrBand)
	isSettled(t, oil, 1000, 0, api.ErrBand)
	isSettled(t, cooling(0, 1, 0, 0), 1000, 0, api.OK)
	isSettled(t, cooling(0, 2, 0, 16384), 511, 0, api.OK)
	isSettled(t, cooling(0, 2, 0, 16384), 512, 0, api.ErrBand)
	isSettled(t, cooling(0, 2, 1, 16384), 1000, heat(977), api.OK)
	isSettled(t, cooling(0, 1024, 1024, 999), 999, heat(999), api.OK)
	isSettled(t, cooling(0, 1024, 1024, 999), 1000, 0, api.ErrBand)
	isSettled(t, cooling(16384, 1024, 0, 16384), 0, 1024, api.OK)
	isSettled(t, cooling(16384, 1024, 0, 16384), 1, 0, api.ErrBand)
	isSettled(t, cooling(15384, 1024, 1024, 16384), 1000, 1024, api.OK)
}

// P8.4: the heat at which a power settles is the last one of the definition.
func TestSettledOfMany(t *testing.T) {
	r := rand.New(rand.NewSource(842))
	seen := map[api.Errno]int{}
	for range 3000 {
		c, power := randomCooling(r), r.Intn(1001)
		n := c.Outside
		for n <= c.Limit && nextOf(c, n, power) != n {
			n = nextOf(c, n, power)
		}
		want, wanted := heat(n), api.OK
		if n > c.Limit {
			want, wanted = 0, api.ErrBand
		}
		isSettled(t, c, power, want, wanted)
		seen[wanted]++
	}
	if seen[api.OK] < 500 || seen[api.ErrBand] < 500 {
		t.Errorf("the errors are %v", seen)
	}
}

// isRating fails a test if the rating is not the expected one.
func isRating(t *testing.T, c start.Cooling, want int, wanted api.Errno) {
	t.Helper()
	power, e := start.Rating(c)
	is(t, fmt.Sprint("the rating of ", c), power, want)
	is(t, fmt.Sprint("the rating of ", c), e, wanted)
}

// P8.4
func TestRating(t *testing.T) {
	eachBadCooling(func(_ string, c start.Cooling, e api.Errno) {
		isRating(t, c, 0, e)
	})
	isRating(t, oil, 655, api.OK)
	isRating(t, cooling(0, 0, 0, 0), 1000, api.OK)
	isRating(t, cooling(0, 1, 0, 0), 1000, api.OK)
	isRating(t, cooling(0, 2, 0, 0), 511, api.OK)
	isRating(t, cooling(0, 2, 0, 16384), 511, api.OK)
	isRating(t, cooling(0, 1024, 0, 16384), 0, api.OK)
	isRating(t, cooling(0, 1024, 1, 16384), 16, api.OK)
	isRating(t, cooling(0, 1024, 1024, 0), 0, api.OK)
	isRating(t, cooling(0, 1024, 1024, 1), 1, api.OK)
	isRating(t, cooling(0, 1024, 1024, 998), 998, api.OK)
	isRating(t, cooling(0, 1024, 1024, 999), 999, api.OK)
	isRating(t, cooling(0, 1024, 1024, 1000), 1000, api.OK)
	isRating(t, cooling(16384, 1024, 1024, 16384), 0, api.OK)
	isRating(t, cooling(16384, 1, 1024, 16384), 1000, api.OK)
}

// P8.4: the rating is the greatest power whose heats stay at one that is not above
// the limit: at the least one above that outside by so much that the loss leaves less
// than a sixteenth of the gain.
func TestRatingsOfMany(t *testing.T) {
	r := rand.New(rand.NewSource(843))
	seen := map[bool]int{}
	for range 1000 {
		c := randomCooling(r)
		want := 0
		for power := range 1001 {
			if c.Gain*power-c.Loss*(c.Limit-c.Outside) < 1024 {
				want = power
			}
		}
		isRating(t, c, want, api.OK)
		seen[want < 1000]++
	}
	if seen[true] < 200 || seen[false] < 200 {
		t.Errorf("ratings below the greatest power: %v", seen)
	}
}
