package valve_test

import (
	"fmt"
	"math/rand"
	"slices"
	"strings"
	"testing"

	"bipole/api"
	"bipole/valve"
)

// P7.4
func TestCheckModules(t *testing.T) {
	for e, l := range badModules() {
		for _, m := range l {
			is(t, fmt.Sprintf("%.200v", m), valve.CheckModules(m), e)
		}
	}
	widest := []valve.Module{{Name: strings.Repeat("m", 24), By: 100000, Hours: 100}, {Name: "M", From: 100000, By: 100000, Hours: 1}, {Name: "m", Hours: 1}}
	for _, m := range [][]valve.Module{nil, {}, modules(), sameModules(8, 100), widest} {
		is(t, fmt.Sprint(m), valve.CheckModules(m), api.OK)
	}
}

// P7.4
func TestCheckOutages(t *testing.T) {
	for e, l := range badOutages() {
		for _, o := range l {
			is(t, fmt.Sprintf("%.200v", o), valve.CheckOutages(o), e)
		}
	}
	widest := []valve.Outage{{}, {Tick: 1, Hours: 100, Cost: 1000000}, {Tick: 100000}}
	for _, o := range [][]valve.Outage{nil, {}, outages(4), sameOutages(100, 1, 2, 3, 4, 5, 6), widest} {
		is(t, fmt.Sprint(o), valve.CheckOutages(o), api.OK)
	}
}

// P7.4: each outage costs once, however many modules it has.
func TestCheckPlan(t *testing.T) {
	eachBadPlan(func(what string, m []valve.Module, o []valve.Outage, plan []int, want api.Errno) {
		cost, e := valve.CheckPlan(m, o, plan)
		is(t, what, cost, 0)
		is(t, what, e, want)
	})
	ends := []valve.Module{{Name: "a", From: 8, By: 8, Hours: 4}, {Name: "b", From: 15, By: 15, Hours: 8}}
	dear := sameOutages(100, 1000000, 999999, 1000000, 1000000, 1000000, 1000000)
	for _, x := range []struct {
		m    []valve.Module
		o    []valve.Outage
		plan []int
		want int
	}{
		{modules(), outages(4), []int{0, 1}, 16}, {modules(), outages(2), []int{0, 1}, 16}, {modules(), outages(5), []int{0, 0}, 10}, {modules(), outages(5), []int{0, 1}, 16}, {nil, nil, nil, 0}, {nil, outages(4), nil, 0}, {ends, outages(4), []int{0, 1}, 16},
		{sameModules(8, 12), dear, []int{0, 1, 2, 3, 4, 5, 5, 0}, 5999999}, {sameModules(8, 12), dear, []int{1, 1, 1, 1, 1, 1, 1, 1}, 999999}, {sameModules(1, 100), dear, []int{3}, 1000000},
	} {
		what := fmt.Sprint(x.plan, " of ", x.m, " and ", x.o)
		cost, e := valve.CheckPlan(x.m, x.o, x.plan)
		is(t, what, cost, x.want)
		is(t, what, e, api.OK)
	}
}

// P7.4: the costs of plans are those of the definition.
func TestCheckPlanOfMany(t *testing.T) {
	r := rand.New(rand.NewSource(741))
	seen := map[api.Errno]int{}
	for range 600 {
		m, o := randomModules(r, 3), randomOutages(r, 4)
		plansOf(m, o, func(plan []int) {
			what := fmt.Sprint(plan, " of ", m, " and ", o)
			want, wanted := costOf(m, o, plan)
			cost, e := valve.CheckPlan(m, o, plan)
			is(t, what, cost, want)
			is(t, what, e, wanted)
			seen[e]++
		})
	}
	if seen[api.OK] < 100 || seen[api.ErrSpan] < 100 || seen[api.ErrLimit] < 100 {
		t.Errorf("the errors are %v", seen)
	}
}

// isBest fails a test if the best plan, or its cost, is not the expected one.
func isBest(t *testing.T, m []valve.Module, o []valve.Outage, want []int, cost int, wanted api.Errno) {
	t.Helper()
	what := fmt.Sprint(m, " and ", o)
	plan, n, e := valve.Plan(m, o)
	isList(t, what, plan, want)
	is(t, what, n, cost)
	is(t, what, e, wanted)
}

// P7.4
func TestPlan(t *testing.T) {
	eachBadTask(func(what string, m []valve.Module, o []valve.Outage, want api.Errno) {
		plan, cost, e := valve.Plan(m, o)
		isList(t, what, plan, nil)
		is(t, what, cost, 0)
		is(t, what, e, want)
	})
	for _, x := range []struct {
		m    []valve.Module
		o    []valve.Outage
		want []int
		cost int
		e    api.Errno
	}{
		{modules(), outages(4), []int{0, 1}, 16, api.OK}, {modules(), outages(5), []int{0, 0}, 10, api.OK}, {nil, nil, nil, 0, api.OK}, {nil, outages(4), nil, 0, api.OK},
		{modules(), outages(4)[1:], nil, 0, api.ErrInfeasible}, {modules(), outages(1), nil, 0, api.ErrInfeasible}, {modules(), nil, nil, 0, api.ErrInfeasible}, {sameModules(1, 1), sameOutages(0, 0, 0, 0), nil, 0, api.ErrInfeasible}, {sameModules(7, 50), sameOutages(100, 0, 0, 0), nil, 0, api.ErrInfeasible}, {[]valve.Module{module("a", 1, 7)}, []valve.Outage{{Tick: 0, Hours: 9}, {Tick: 8, Hours: 9}}, nil, 0, api.ErrInfeasible},
		{[]valve.Module{module("a", 8, 8)}, outages(4), []int{0}, 10, api.OK}, {[]valve.Module{module("a", 15, 15)}, outages(4), []int{1}, 6, api.OK}, {[]valve.Module{module("a", 8, 15)}, outages(4), []int{1}, 6, api.OK},
	} {
		isBest(t, x.m, x.o, x.want, x.cost, x.e)
	}
}

// P7.4: of several best plans the first one is taken, at the first place where they
// differ.
func TestFirstPlan(t *testing.T) {
	isBest(t, sameModules(8, 1), sameOutages(100, 0, 0, 0, 0, 0, 0), []int{0, 0, 0, 0, 0, 0, 0, 0}, 0, api.OK)
	isBest(t, sameModules(8, 1), sameOutages(2, 5, 5, 5, 5, 5, 5), []int{0, 0, 1, 1, 2, 2, 3, 3}, 20, api.OK)
	isBest(t, sameModules(8, 1), sameOutages(3, 7, 5, 5, 5, 5, 5), []int{1, 1, 1, 2, 2, 2, 3, 3}, 15, api.OK)
	isBest(t, sameModules(4, 2), sameOutages(5, 9, 0, 3, 6, 3, 1000000), []int{1, 1, 2, 2}, 3, api.OK)
	isBest(t, sameModules(4, 2), sameOutages(4, 6, 3, 3, 6), []int{1, 1, 2, 2}, 6, api.OK)
	isBest(t, sameModules(2, 2), sameOutages(2, 6, 4, 2, 0), []int{2, 3}, 2, api.OK)
	isBest(t, sameModules(8, 100), sameOutages(100, 1, 1, 1, 1, 1, 1), nil, 0, api.ErrInfeasible)
	uneven := sameModules(3, 1)
	uneven[0].Hours, uneven[2].By = 3, 0
	isBest(t, uneven, sameOutages(3, 4, 4, 4), []int{1, 0, 0}, 8, api.OK)
	isBest(t, uneven, sameOutages(4, 4, 4, 4), []int{0, 1, 0}, 8, api.OK)
	isBest(t, uneven, sameOutages(5, 4, 4, 4), []int{0, 0, 0}, 4, api.OK)
	isBest(t, sameModules(6, 100), sameOutages(100, 1000000, 1000000, 1000000, 1000000, 1000000, 1000000), []int{0, 1, 2, 3, 4, 5}, 6000000, api.OK)
}

// P7.4: the best plan is that of the definition.
func TestPlansOfMany(t *testing.T) {
	r := rand.New(rand.NewSource(742))
	seen := map[string]int{}
	for range 1500 {
		m, o := randomModules(r, 5), randomOutages(r, 6)
		what := fmt.Sprint(m, " and ", o)
		var best []int
		least, wanted, same := 0, api.ErrInfeasible, false
		plansOf(m, o, func(plan []int) {
			cost, e := costOf(m, o, plan)
			if e != api.OK {
				return
			}
			if wanted == api.OK && cost <= least {
				same = cost == least
			}
			if wanted != api.OK || cost < least {
				best, least, wanted = slices.Clone(plan), cost, api.OK
			}
		})
		plan, cost, e := valve.Plan(m, o)
		isList(t, what, plan, best)
		is(t, what, cost, least)
		is(t, what, e, wanted)
		seen[fmt.Sprint(e, same)]++
	}
	if len(seen) != 3 || seen["0 true"] < 200 || seen["0 false"] < 200 || seen["18 false"] < 100 {
		t.Errorf("the results are %v", seen)
	}
}

// P7.4: the most modules and outages are not too many to be tried.
func TestGreatestPlans(t *testing.T) {
	r := rand.New(rand.NewSource(743))
	for range 5 {
		m := sameModules(8, 1)
		for k := range m {
			m[k].Hours = between(r, 1, 3)
		}
		o := sameOutages(100, 0, 0, 0, 0, 0, 0)
		for i := range o {
			o[i].Hours, o[i].Cost = between(r, 1, 5), between(r, 1, 9)
		}
		what := fmt.Sprint(m, " and ", o)
		least, wanted := 0, api.ErrInfeasible
		plansOf(m, o, func(plan []int) {
			cost, e := costOf(m, o, plan)
			if e == api.OK && (wanted != api.OK || cost < least) {
				least, wanted = cost, e
			}
		})
		_, cost, e := valve.Plan(m, o)
		is(t, what, cost, least)
		is(t, what, e, wanted)
	}
}
