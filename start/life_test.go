package start_test

import (
	"fmt"
	"math"
	"math/rand"
	"slices"
	"testing"

	"bipole/api"
	"bipole/start"
)

// eachBadWear calls a function with wears and with the error that they have.
func eachBadWear(f func(w start.Wear)) {
	for _, n := range beyond(0, 16384) {
		f(start.Wear{From: n, Step: 40})
		f(start.Wear{From: n})
	}
	for _, n := range beyond(1, 16384) {
		f(start.Wear{From: 400, Step: n})
		f(start.Wear{From: -1, Step: n})
	}
}

// P8.4
func TestCheckWear(t *testing.T) {
	eachBadWear(func(w start.Wear) { is(t, fmt.Sprint(w), start.CheckWear(w), api.ErrRange) })
	for _, w := range []start.Wear{{From: 400, Step: 40}, {From: 0, Step: 1}, {From: 16384, Step: 16384}} {
		is(t, fmt.Sprint(w), start.CheckWear(w), api.OK)
	}
}

// isLife fails a test if the life that heats use is not the expected one.
func isLife(t *testing.T, w start.Wear, heats []float32, want float32, wanted api.Errno) {
	t.Helper()
	what := brief(w, " by ", heats)
	life, e := start.Life(w, heats)
	is(t, what, life, want)
	is(t, what, e, wanted)
}

// P8.4: the wear is asked for before the heats.
func TestBadLife(t *testing.T) {
	eachBadWear(func(w start.Wear) {
		isLife(t, w, nil, 0, api.ErrRange)
		isLife(t, w, []float32{20, float32(math.NaN())}, 0, api.ErrRange)
		isLife(t, w, make([]float32, 257), 0, api.ErrRange)
	})
	w := start.Wear{From: 400, Step: 40}
	isLife(t, w, make([]float32, 257), 0, api.ErrMany)
	isLife(t, w, slices.Repeat([]float32{-1}, 257), 0, api.ErrMany)
	for e, l := range badHeats(16384) {
		for _, x := range l {
			isLife(t, w, []float32{x}, 0, e)
			isLife(t, w, []float32{20, 1024, x}, 0, e)
			isLife(t, w, []float32{x, -1, float32(math.NaN())}, 0, e)
		}
	}
}

// P8.4: the life doubles at From, and then at each step, six times in all.
func TestLife(t *testing.T) {
	w := start.Wear{From: 400, Step: 40}
	for n, want := range map[int]int{0: 1, 320: 1, 399: 1, 400: 2, 439: 2, 440: 4, 479: 4, 480: 8, 519: 8, 520: 16, 559: 16, 560: 32, 599: 32, 600: 64, 639: 64, 640: 64, 16384: 64} {
		isLife(t, w, []float32{heat(n)}, heat(want), api.OK)
	}
	zero := float32(math.Copysign(0, -1))
	isLife(t, w, []float32{20, 25, 27.5}, 0.4375, api.OK)
	isLife(t, w, nil, 0, api.OK)
	isLife(t, w, []float32{zero}, 0.0625, api.OK)
	isLife(t, start.Wear{From: 0, Step: 1}, []float32{zero, heat(1), heat(2), heat(3), heat(4), heat(5), heat(6), 1024}, heat(2+4+8+16+32+64+64+64), api.OK)
	isLife(t, start.Wear{From: 16384, Step: 1}, []float32{heat(16383), 1024}, heat(3), api.OK)
	isLife(t, start.Wear{From: 0, Step: 16384}, []float32{heat(16383), 1024}, heat(6), api.OK)
	isLife(t, w, slices.Repeat([]float32{1024}, 256), 1024, api.OK) // the greatest life
	isLife(t, w, slices.Repeat([]float32{1}, 256), 16, api.OK)
}

// P8.4: the life that heats use is that of the definition.
func TestLifeOfMany(t *testing.T) {
	r := rand.New(rand.NewSource(844))
	for range 3000 {
		w := start.Wear{From: r.Intn(1000), Step: between(r, 1, []int{9, 99, 16384}[r.Intn(3)])}
		heats, sum := make([]float32, r.Intn(12)), 0
		for i := range heats {
			n := max(w.From+between(r, -9, 600), 0)
			heats[i] = heat(n)
			k := math.Floor(float64(n-w.From)/float64(w.Step)) + 1
			if n < w.From {
				k = 0
			}
			sum += int(math.Exp2(min(k, 6)))
		}
		isLife(t, w, heats, heat(sum), api.OK)
	}
}
