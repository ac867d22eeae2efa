package harmonic_test

import (
	"fmt"
	"math"
	"math/rand"
	"slices"
	"testing"

	"bipole/api"
	"bipole/harmonic"
)

var (
	nan     = float32(math.NaN())
	inf     = float32(math.Inf(1))
	negZero = float32(math.Copysign(0, -1))
)

// P4.2
func TestRecord(t *testing.T) {
	l, e := harmonic.Record(low(), 2)
	isList(t, "the record of P", l, []float32{0, 1, 1, 1, 1, 0, 0, -1, -1, -1, -1, 0, 0, 1, 1, 1, 1, 0, 0, -1, -1, -1, -1, 0})
	is(t, "the record of P", e, api.OK)
	r := rand.New(rand.NewSource(424))
	for periods := 1; periods <= 16; periods++ {
		p := randomPattern(r, 100)
		p[periods%12] = 100 - 200*(periods%2)
		l, e := harmonic.Record(p, periods)
		is(t, "the number of samples", len(l), 12*periods)
		for i, x := range l {
			is(t, fmt.Sprint("the sample ", i, " of ", p), x, float32(p[i%12]))
		}
		is(t, fmt.Sprint("the record of ", p), e, api.OK)
		back, e := harmonic.Levels(l)
		is(t, fmt.Sprint("levels of ", l), back, p)
		is(t, fmt.Sprint("levels of ", l), e, api.OK)
	}
	for _, n := range beyond(1, 16) {
		l, e := harmonic.Record(low(), n)
		isList(t, fmt.Sprint("periods: ", n), l, nil)
		is(t, fmt.Sprint("periods: ", n), e, api.ErrRange)
	}
}

// notLevels fails a test if a record does not have an error.
func notLevels(t *testing.T, what string, l []float32, want api.Errno) {
	t.Helper()
	p, e := harmonic.Levels(l)
	is(t, what, p, pattern{})
	is(t, what, e, want)
}

// P4.2: the number of samples is asked for before any sample.
func TestLevelsOfWrongNumbers(t *testing.T) {
	notLevels(t, "no list", nil, api.ErrShort)
	for n := range 500 {
		want := api.OK
		switch {
		case n < 12:
			want = api.ErrShort
		case n > 192:
			want = api.ErrMany
		case n%12 != 0:
			want = api.ErrShape
		}
		p, e := harmonic.Levels(make([]float32, n))
		is(t, fmt.Sprint("samples: ", n), p, pattern{})
		is(t, fmt.Sprint("samples: ", n), e, want)
		if want != api.OK {
			l := slices.Repeat([]float32{nan, 0.5, 200}, n/3+1)[:n]
			notLevels(t, fmt.Sprint("wrong samples: ", n), l, want)
		}
	}
}

// badLevels returns samples that are no levels.
func badLevels() map[float32]api.Errno {
	return map[float32]api.Errno{
		inf: api.ErrForm, -inf: api.ErrForm,
		2000: api.ErrRange, 1025: api.ErrRange, -1024.0625: api.ErrRange, 0.03125: api.ErrRange, 0.1: api.ErrRange, 100.01: api.ErrRange, math.MaxFloat32: api.ErrRange, -math.MaxFloat32: api.ErrRange, math.SmallestNonzeroFloat32: api.ErrRange,
		0.5: api.ErrForm, -0.5: api.ErrForm, 0.0625: api.ErrForm, 99.9375: api.ErrForm, -99.9375: api.ErrForm, 100.0625: api.ErrForm, -100.5: api.ErrForm, 1023.9375: api.ErrForm,
		101: api.ErrRange, -101: api.ErrRange, 1024: api.ErrRange, -1024: api.ErrRange,
	}
}

// P4.2: the first sample with an error decides, and all are asked for before the
// periods.
func TestLevelsOfWrongSamples(t *testing.T) {
	for i := range 36 {
		wrong := func(x float32) []float32 {
			l, _ := harmonic.Record(square(), 3)
			l[i] = x
			return l
		}
		notLevels(t, fmt.Sprint("NaN at ", i), wrong(nan), api.ErrForm)
		notLevels(t, fmt.Sprint("another period at ", i), wrong(2), api.ErrConflict)
		notLevels(t, fmt.Sprint("0 at ", i), wrong(0), api.ErrConflict)
		for x, e := range badLevels() {
			what := fmt.Sprint(x, " at ", i)
			l := wrong(x)
			notLevels(t, what, l, e)
			if i+1 < 36 {
				l[35] = 2 // a conflict
				notLevels(t, what+", and a conflict", l, e)
				l[35] = nan
				notLevels(t, what+", and NaN behind it", l, e)
				l[35] = 101
				notLevels(t, what+", and a great level behind it", l, e)
			}
		}
	}
}

// P4.2: -0 is 0.
func TestLevelsOfZeros(t *testing.T) {
	for periods := 1; periods <= 2; periods++ {
		l := make([]float32, 12*periods)
		for i := range l {
			if i%5 == 0 {
				l[i] = negZero
			}
		}
		p, e := harmonic.Levels(l)
		is(t, "levels of zeros", p, pattern{})
		is(t, "levels of zeros", e, api.OK)
	}
	l, _ := harmonic.Record(pattern{}, 1)
	for i, x := range l {
		is(t, fmt.Sprint("-0 at ", i), math.Signbit(float64(x)), false)
	}
}
