package cable_test

import (
	"fmt"
	"math"
	"math/big"
	"math/rand"
	"testing"

	"bipole/api"
	"bipole/cable"
)

// interval returns the interval from low to high.
func interval(low, high int) api.Interval {
	return api.Interval{Low: low, High: high}
}

// notLocated fails a test if a fault is located, or there is another error.
func notLocated(t *testing.T, c cable.Cable, a, b api.Interval, want api.Errno) {
	t.Helper()
	what := fmt.Sprintf("%v and %v of %.200v", a, b, c)
	p, e := cable.Locate(c, a, b)
	is(t, what, p, [2]api.Ratio{})
	is(t, what, e, want)
}

// P6.4: a cable is asked for before the interval of A, and this before that of B.
func TestNotLocated(t *testing.T) {
	good := interval(5, 5)
	eachBadCable(func(_ string, c cable.Cable, e api.Errno) {
		notLocated(t, c, good, good, e)
		notLocated(t, c, interval(-1, -2), interval(5, 4), e)
	})
	for _, n := range beyond(0, 999999999) {
		for _, bad := range []api.Interval{interval(n, 5), interval(5, n), interval(n, n), interval(n, n-1)} {
			notLocated(t, shown(), bad, good, api.ErrRange)
			notLocated(t, shown(), good, bad, api.ErrRange)
			notLocated(t, shown(), bad, interval(5, 4), api.ErrRange)
			notLocated(t, shown(), interval(5, 4), bad, api.ErrOrder)
		}
	}
	for _, bad := range []api.Interval{interval(5, 4), interval(999999999, 0)} {
		notLocated(t, shown(), bad, good, api.ErrOrder)
		notLocated(t, shown(), good, bad, api.ErrOrder)
	}
	for _, x := range [][2]api.Interval{
		{interval(100, 100), interval(111, 111)}, {interval(111, 111), interval(100, 100)}, {interval(90, 100), interval(111, 120)}, {interval(111, 120), interval(90, 100)},
		{interval(0, 0), interval(999999999, 999999999)}, {interval(999999999, 999999999), interval(0, 999999988)}, {interval(0, 999999988), interval(999999999, 999999999)},
	} {
		notLocated(t, shown(), x[0], x[1], api.ErrNone)
	}
}

// P6.4
func TestLocate(t *testing.T) {
	whole := interval(0, 999999999)
	ends := [2]api.Ratio{ratio(0, 1), ratio(4000, 1)}
	for _, x := range []struct {
		a, b api.Interval
		want [2]api.Ratio
	}{
		{interval(101, 101), interval(109, 109), [2]api.Ratio{ratio(250, 1), ratio(250, 1)}}, {interval(100, 102), interval(109, 109), [2]api.Ratio{ratio(125, 1), ratio(375, 1)}}, {interval(101, 101), interval(108, 110), [2]api.Ratio{ratio(125, 1), ratio(375, 1)}},
		{interval(101, 101), interval(109, 110), [2]api.Ratio{ratio(125, 1), ratio(250, 1)}}, {interval(101, 102), interval(109, 109), [2]api.Ratio{ratio(250, 1), ratio(375, 1)}}, {interval(100, 102), interval(108, 110), [2]api.Ratio{ratio(0, 1), ratio(500, 1)}},
		{interval(100, 100), interval(110, 110), [2]api.Ratio{ratio(0, 1), ratio(0, 1)}}, {interval(110, 110), interval(100, 100), [2]api.Ratio{ratio(4000, 1), ratio(4000, 1)}}, {interval(99, 100), interval(110, 111), [2]api.Ratio{ratio(0, 1), ratio(0, 1)}}, {interval(110, 111), interval(99, 100), [2]api.Ratio{ratio(4000, 1), ratio(4000, 1)}},
		{interval(90, 101), interval(109, 109), [2]api.Ratio{ratio(0, 1), ratio(250, 1)}}, {interval(101, 190), interval(109, 109), [2]api.Ratio{ratio(250, 1), ratio(4000, 1)}},
		{interval(5, 5), interval(5, 5), [2]api.Ratio{ratio(1500, 1), ratio(1500, 1)}}, {interval(104, 105), interval(107, 107), [2]api.Ratio{ratio(875, 1), ratio(1000, 1)}}, {interval(106, 106), interval(107, 107), [2]api.Ratio{ratio(1250, 1), ratio(1250, 1)}},
		{whole, whole, ends}, {whole, interval(0, 0), [2]api.Ratio{ratio(1500, 1), ratio(4000, 1)}}, {interval(0, 0), whole, [2]api.Ratio{ratio(0, 1), ratio(1500, 1)}}, {interval(999999999, 999999999), interval(999999999, 999999999), [2]api.Ratio{ratio(1500, 1), ratio(1500, 1)}},
	} {
		p, e := cable.Locate(shown(), x.a, x.b)
		is(t, fmt.Sprint(x.a, " and ", x.b), p, x.want)
		is(t, fmt.Sprint(x.a, " and ", x.b), e, api.OK)
	}
	p, e := cable.Locate(longest(0), interval(383, 383), interval(0, 0))
	is(t, "the longest cable", p, [2]api.Ratio{ratio(2396875, 4), ratio(2396875, 4)})
	is(t, "the longest cable", e, api.OK)
}

// locatedOf looks for the located places at all multiples of a quarter of a tick.
func locatedOf(c cable.Cable, a, b api.Interval) ([2]api.Ratio, api.Errno) {
	l, _ := cable.Length(c)
	var found []*big.Rat
	for quarters := range 4*l[1] + 1 {
		x := float64(quarters) / 4
		for i := a.Low; i <= a.High; i++ {
			for j := b.Low; j <= b.High; j++ {
				if x-float64(i) == float64(l[1])-x-float64(j) {
					found = append(found, placeOf(c, big.NewRat(int64(quarters), 4)))
				}
			}
		}
	}
	if len(found) == 0 {
		return [2]api.Ratio{}, api.ErrNone
	}
	low, high := found[0], found[0]
	for _, p := range found {
		if p.Cmp(low) < 0 {
			low = p
		}
		if p.Cmp(high) > 0 {
			high = p
		}
	}
	return [2]api.Ratio{lowest(low), lowest(high)}, api.OK
}

// P6.4: located places are those of the definition.
func TestLocatedOfMany(t *testing.T) {
	r := rand.New(rand.NewSource(641))
	seen := map[api.Errno]int{}
	for range 1500 {
		c := randomCable(r)
		l, _ := cable.Length(c)
		if l[1] > 60 {
			continue
		}
		a, b := interval(100, 100+r.Intn(4)), interval(100, 100+r.Intn(4))
		by := between(r, -l[1]-5, l[1]+5)
		a.Low, a.High = a.Low+by, a.High+by
		want, wanted := locatedOf(c, a, b)
		p, e := cable.Locate(c, a, b)
		is(t, fmt.Sprint(a, " and ", b, " of ", c), p, want)
		is(t, fmt.Sprint(a, " and ", b, " of ", c), e, wanted)
		seen[e]++
	}
	if len(seen) != 2 || seen[api.OK] < 200 || seen[api.ErrNone] < 50 {
		t.Errorf("the errors are %v", seen)
	}
}

// P1: intervals that are far from well-formed are refused.
func TestLocateOfFarTicks(t *testing.T) {
	notLocated(t, shown(), interval(math.MinInt, math.MaxInt), interval(math.MaxInt, math.MinInt), api.ErrRange)
	notLocated(t, shown(), interval(math.MaxInt, math.MinInt), interval(0, 0), api.ErrRange)
}
