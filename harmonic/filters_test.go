package harmonic_test

import (
	"fmt"
	"math/rand"
	"slices"
	"testing"

	"bipole/api"
	"bipole/harmonic"
)

// P4.4
func TestCheckFilter(t *testing.T) {
	for _, f := range []harmonic.Filter{
		pair(), filter([2]int{0, 1}), filter([2]int{1, 0}), filter([2]int{50, 0}), filter([2]int{0, 2000}), filter([2]int{50, 2000}, [2]int{50, 2000}, [2]int{50, 2000}), filter([2]int{0, 5}, [2]int{0, 5}),
	} {
		is(t, fmt.Sprint(f), harmonic.CheckFilter(f), api.OK)
	}
	for _, x := range badFilters() {
		is(t, fmt.Sprint(x.f), harmonic.CheckFilter(x.f), x.e)
	}
}

// P4.4, P4.5: filters are asked for before all other arguments.
func TestErrorsOfFilters(t *testing.T) {
	for _, x := range badFilters() {
		what := fmt.Sprint(x.f)
		for _, wrong := range []int{-1, 4, 13} {
			s, e := harmonic.Susceptance(x.f, wrong)
			is(t, "the susceptance of "+what, s, api.Ratio{})
			is(t, "the susceptance of "+what, e, x.e)
			f, e := harmonic.Tapped(x.f, wrong, wrong)
			isFilter(t, "tapped: "+what, f, harmonic.Filter{})
			is(t, "tapped: "+what, e, x.e)
			for _, l := range [][]api.Gauss{nil, box()} {
				meets, e := harmonic.Meets(x.f, l, wrong)
				is(t, "meets: "+what, meets, false)
				is(t, "meets: "+what, e, x.e)
				edge, e := harmonic.Edge(x.f, l, wrong)
				is(t, "the edge: "+what, edge, 0)
				is(t, "the edge: "+what, e, x.e)
				is(t, "the proof: "+what, harmonic.CheckEdge(x.f, l, wrong, wrong), x.e)
				tap, e := harmonic.Avoid(x.f, wrong, l, []int{wrong})
				is(t, "the tap: "+what, tap, 0)
				is(t, "the tap: "+what, e, x.e)
			}
		}
		l, e := harmonic.Resonances(x.f)
		isList(t, "the resonances of "+what, l, nil)
		is(t, "the resonances of "+what, e, x.e)
		s, e := harmonic.Print(x.f)
		is(t, "the text of "+what, s, "")
		is(t, "the text of "+what, e, x.e)
	}
}

// P4.4
func TestSusceptance(t *testing.T) {
	for _, x := range []struct {
		f        harmonic.Filter
		h        int
		num, den int
		e        api.Errno
	}{
		{pair(), 1, 43, 280, api.OK}, {pair(), 2, 37, 80, api.OK}, {pair(), 4, -13, 35, api.OK}, {pair(), 5, 25, 176, api.OK}, {pair(), 12, -1, 5, api.OK},
		{pair(), 3, 0, 0, api.ErrSingular}, {pair(), 6, 0, 0, api.ErrSingular}, {filter([2]int{1, 9}, [2]int{1, 1}, [2]int{0, 1}), 1, 0, 0, api.ErrSingular}, {filter([2]int{13, 13 * 144}), 12, 0, 0, api.ErrSingular},
		{filter([2]int{0, 2}, [2]int{1, 2}), 2, 0, 1, api.OK}, {filter([2]int{1, 2}, [2]int{0, 2}), 2, 0, 1, api.OK}, {filter([2]int{0, 2}, [2]int{1, 2}), 1, 3, 2, api.OK},
		{filter([2]int{0, 5}), 12, 12, 5, api.OK}, {filter([2]int{0, 6}), 12, 2, 1, api.OK}, {filter([2]int{5, 0}), 1, -1, 5, api.OK}, {filter([2]int{50, 0}), 12, -1, 600, api.OK}, {filter([2]int{0, 2000}), 1, 1, 2000, api.OK}, {filter([2]int{0, 1}, [2]int{0, 1}, [2]int{0, 1}), 12, 36, 1, api.OK},
		// Neither part has a limit.
		{filter([2]int{50, 1}, [2]int{49, 1}, [2]int{50, 13}), 12, -1838789316, 365020147715, api.OK},
	} {
		s, e := harmonic.Susceptance(x.f, x.h)
		is(t, fmt.Sprint("the susceptance of ", x.f, " at ", x.h), s, api.Ratio{Num: x.num, Den: x.den})
		is(t, fmt.Sprint("the susceptance of ", x.f, " at ", x.h), e, x.e)
	}
	for _, n := range append(beyond(1, 12), -3, -1) {
		s, e := harmonic.Susceptance(pair(), n)
		is(t, fmt.Sprint("the susceptance at ", n), s, api.Ratio{})
		is(t, fmt.Sprint("the susceptance at ", n), e, api.ErrRange)
	}
}

// P4.4: susceptances are those of the definition, in lowest terms.
func TestSusceptanceOfMany(t *testing.T) {
	r := rand.New(rand.NewSource(441))
	tuned := 0
	for range 3000 {
		f := randomFilter(r)
		for h := 1; h <= 12; h++ {
			want, wanted := api.Ratio{}, api.ErrSingular
			if sum := susceptanceOf(f, h); sum != nil {
				want, wanted = api.Ratio{Num: int(sum.Num().Int64()), Den: int(sum.Denom().Int64())}, api.OK
			} else {
				tuned++
			}
			s, e := harmonic.Susceptance(f, h)
			is(t, fmt.Sprint("the susceptance of ", f, " at ", h), s, want)
			is(t, fmt.Sprint("the susceptance of ", f, " at ", h), e, wanted)
		}
	}
	if tuned < 500 {
		t.Errorf("only %d susceptances are none", tuned)
	}
}

// P4.4
func TestResonances(t *testing.T) {
	for _, x := range []struct {
		f harmonic.Filter
		l []int
	}{
		{pair(), []int{4}}, {filter([2]int{0, 5}), nil}, {filter([2]int{5, 0}), nil}, {filter([2]int{1, 30}), []int{5}}, {filter([2]int{1, 143}), []int{11}}, {filter([2]int{1, 145}), nil}, {filter([2]int{2, 3}), []int{1}},
		// 0 at an order, at the first one, and at the last one, which is none.
		{filter([2]int{0, 2}, [2]int{1, 2}), []int{2}}, {filter([2]int{0, 1}, [2]int{2, 1}), []int{1}}, {filter([2]int{0, 100}, [2]int{1, 44}), []int{6}}, {filter([2]int{0, 100}, [2]int{1, 21}), []int{4, 11}},
		// Tuned to an order, before it and at it there is none.
		{filter([2]int{1, 36}), nil}, {filter([2]int{1, 36}, [2]int{0, 36}), []int{8}}, {filter([2]int{1, 1}, [2]int{1, 144}), []int{8}},
		// From above 0 to below it, and from below 0 to above it.
		{filter([2]int{1, 20}, [2]int{1, 56}), []int{4, 6, 7}}, {filter([2]int{1, 20}, [2]int{1, 30}), []int{5}}, {filter([2]int{1, 6}, [2]int{1, 12}, [2]int{1, 20}), []int{3}},
	} {
		l, e := harmonic.Resonances(x.f)
		isList(t, fmt.Sprint("the resonances of ", x.f), l, x.l)
		is(t, fmt.Sprint("the resonances of ", x.f), e, api.OK)
	}
}

// P4.4: resonances are those of the definition.
func TestResonancesOfMany(t *testing.T) {
	r := rand.New(rand.NewSource(442))
	seen, zeros := map[int]int{}, 0
	for n := range 20000 {
		f := randomFilter(r)
		if n%4 == 0 { // two branches that are 0 together at an order
			h, l, c := between(r, 1, 12), between(r, 1, 13), r.Intn(200)
			if c < h*h*l {
				f = filter([2]int{0, h*h*l - c}, [2]int{l, c})
			}
		}
		var want []int
		for h := 1; h <= 11; h++ {
			here, next := susceptanceOf(f, h), susceptanceOf(f, h+1)
			if here == nil || next == nil {
				continue
			}
			if here.Sign() == 0 {
				zeros++
			}
			if here.Sign() == 0 || here.Sign() == -next.Sign() {
				want = append(want, h)
				seen[h]++
			}
		}
		l, e := harmonic.Resonances(f)
		isList(t, fmt.Sprint("the resonances of ", f), l, want)
		is(t, fmt.Sprint("the resonances of ", f), e, api.OK)
	}
	if len(seen) != 11 || zeros < 1000 {
		t.Errorf("resonances are at %v, %d of them where the susceptance is 0", seen, zeros)
	}
}

// P4.4
func TestTapped(t *testing.T) {
	three := filter([2]int{20, 0}, [2]int{8, 1}, [2]int{42, 2000})
	for branch, b := range three.Branches {
		for tap := -8; tap <= 8; tap++ {
			want := filter([2]int{20, 0}, [2]int{8, 1}, [2]int{42, 2000})
			want.Branches[branch] = harmonic.Branch{L: b.L + tap, C: b.C}
			f, e := harmonic.Tapped(three, branch, tap)
			isFilter(t, fmt.Sprint("tapped by ", tap, " at ", branch), f, want)
			is(t, fmt.Sprint("tapped by ", tap, " at ", branch), e, api.OK)
		}
	}
	for _, x := range []struct {
		f           harmonic.Filter
		branch, tap int
		e           api.Errno
	}{
		{pair(), 2, 0, api.ErrUnknown}, {pair(), -1, 0, api.ErrUnknown}, {pair(), 3, 9, api.ErrUnknown}, {three, 3, 1, api.ErrUnknown}, {filter([2]int{1, 9}), 1, 0, api.ErrUnknown},
		{pair(), 0, 9, api.ErrRange}, {pair(), 1, -9, api.ErrRange}, {filter([2]int{50, 0}), 0, 9, api.ErrRange},
		{pair(), 0, -2, api.ErrLarge}, {pair(), 1, -8, api.ErrLarge}, {filter([2]int{50, 9}), 0, 1, api.ErrLarge}, {filter([2]int{43, 9}), 0, 8, api.ErrLarge}, {filter([2]int{7, 9}), 0, -8, api.ErrLarge}, {filter([2]int{1, 0}), 0, -1, api.ErrLarge}, {filter([2]int{1, 9}, [2]int{8, 0}), 1, -8, api.ErrLarge},
	} {
		f, e := harmonic.Tapped(x.f, x.branch, x.tap)
		isFilter(t, fmt.Sprint(x.f, " tapped by ", x.tap, " at ", x.branch), f, harmonic.Filter{})
		is(t, fmt.Sprint(x.f, " tapped by ", x.tap, " at ", x.branch), e, x.e)
	}
	for _, n := range beyond(-8, 8) {
		_, e := harmonic.Tapped(three, 1, n)
		is(t, fmt.Sprint("tapped by ", n), e, api.ErrRange)
	}
	for _, n := range beyond(0, 2) {
		_, e := harmonic.Tapped(three, n, 99)
		is(t, fmt.Sprint("tapped at ", n), e, api.ErrUnknown)
	}
}

// P4.4: a tapped filter shares no memory with the filter.
func TestMemoryOfFilters(t *testing.T) {
	f := harmonic.Filter{Branches: pair().Branches[:1:2]}
	for tap := range 2 {
		changed, e := harmonic.Tapped(f, 0, tap)
		is(t, "tapped", e, api.OK)
		changed.Branches[0].C = 7
		changed.Branches = append(changed.Branches, harmonic.Branch{L: 7, C: 7})
		isList(t, "the filter after its tapped one is changed", f.Branches[:2], append(slices.Clone(pair().Branches[:1]), f.Branches[:2][1]))
		isFilter(t, "the filter", f, filter([2]int{1, 9}))
	}
	for _, tap := range []int{-2, 0} {
		g := pair()
		harmonic.Tapped(g, 1, tap)
		harmonic.Avoid(g, 0, box(), []int{5})
		harmonic.Resonances(g)
		isFilter(t, "the filter", g, pair())
	}
}
