package valve_test

import (
	"fmt"
	"math/rand"
	"slices"
	"strconv"
	"strings"

	"bipole/api"
	"bipole/valve"
)

// modules are those of the chapter's example.
func modules() []valve.Module {
	return []valve.Module{{Name: "m1", By: 10, Hours: 2}, {Name: "m2", From: 5, By: 20, Hours: 3}}
}

// outages are those of the chapter's example, with so many hours at the first one.
func outages(hours int) []valve.Outage {
	return []valve.Outage{{Tick: 8, Hours: hours, Cost: 10}, {Tick: 15, Hours: 8, Cost: 6}}
}

// module returns a module of an hour.
func module(name string, from, by int) valve.Module {
	return valve.Module{Name: name, From: from, By: by, Hours: 1}
}

// sameModules returns so many modules from 0 to 100 that take so many hours.
func sameModules(n, hours int) []valve.Module {
	var l []valve.Module
	for i := range n {
		l = append(l, valve.Module{Name: "m" + strconv.Itoa(i), By: 100, Hours: hours})
	}
	return l
}

// sameOutages returns outages of so many hours, with these costs.
func sameOutages(hours int, costs ...int) []valve.Outage {
	var l []valve.Outage
	for i, cost := range costs {
		l = append(l, valve.Outage{Tick: i, Hours: hours, Cost: cost})
	}
	return l
}

// randomModules returns up to so many modules.
func randomModules(r *rand.Rand, most int) []valve.Module {
	var l []valve.Module
	for i := range between(r, 0, most) {
		m := valve.Module{Name: "m" + strconv.Itoa(i), From: r.Intn(30), Hours: between(r, 1, 4)}
		m.By = m.From + r.Intn(40)
		if r.Intn(3) == 0 {
			m.From, m.By = 0, 100
		}
		l = append(l, m)
	}
	return l
}

// randomOutages returns up to so many outages, some of them of the same cost.
func randomOutages(r *rand.Rand, most int) []valve.Outage {
	var l []valve.Outage
	tick, costs := r.Intn(9), []int{2, 6, 100}[r.Intn(3)]
	for range between(r, 0, most) {
		l = append(l, valve.Outage{Tick: tick, Hours: r.Intn([]int{6, 12, 101}[r.Intn(3)]), Cost: r.Intn(costs)})
		tick += between(r, 1, 12)
	}
	return l
}

// randomTask returns modules and outages for which plans are often possible.
func randomTask(r *rand.Rand) ([]valve.Module, []valve.Outage) {
	return randomModules(r, []int{3, 5, 8}[r.Intn(3)]), randomOutages(r, 6)
}

// plansOf visits all lists of outages for modules, in their order.
func plansOf(m []valve.Module, o []valve.Outage, f func(plan []int)) {
	plan := make([]int, len(m))
	var fill func(k int)
	fill = func(k int) {
		if k == len(m) {
			f(plan)
			return
		}
		for i := range o {
			plan[k] = i
			fill(k + 1)
		}
	}
	fill(0)
}

// costOf returns the cost of a list of outages, or its error, by the definition.
func costOf(m []valve.Module, o []valve.Outage, plan []int) (int, api.Errno) {
	for k, i := range plan {
		if o[i].Tick < m[k].From || o[i].Tick > m[k].By {
			return 0, api.ErrSpan
		}
	}
	cost := 0
	for i, x := range o {
		hours := 0
		for k := range plan {
			if plan[k] == i {
				hours += m[k].Hours
			}
		}
		if hours > x.Hours {
			return 0, api.ErrLimit
		}
		if hours > 0 {
			cost += x.Cost
		}
	}
	return cost, api.OK
}

// badModules returns modules with each error, most of them with later errors, too.
func badModules() map[api.Errno][][]valve.Module {
	none := valve.Module{From: -1}
	l := map[api.Errno][][]valve.Module{
		api.ErrMany:  {sameModules(9, 1), make([]valve.Module, 9), slices.Repeat([]valve.Module{none}, 1000)},
		api.ErrTwice: {{module("m1", 0, 1), module("m1", 0, 1)}, {module("m1", 0, 1), module("m2", 0, 1), {Name: "m1", From: -1, By: -2}}, {module("a", 0, 1), module("b", 0, 1), module("a", 2, 1), none}},
		api.ErrOrder: {{module("m1", 1, 0)}, {module("m1", 0, 0), module("m2", 100000, 0), none}, {module("m1", 100000, 99999), module("m1", 0, 0)}},
	}
	for _, name := range []string{"", "1", "_a", "a b", "a-", "ä", "m\n", strings.Repeat("m", 25)} {
		l[api.ErrName] = append(l[api.ErrName], []valve.Module{module(name, 0, 1)}, []valve.Module{module("m1", 0, 1), {Name: name, From: -1, By: -1}}, []valve.Module{{Name: name}, module("m1", 0, 1), module("m1", 0, 1)})
	}
	for _, n := range beyond(0, 100000) {
		l[api.ErrRange] = append(l[api.ErrRange], []valve.Module{module("m1", n, 5)}, []valve.Module{module("m1", 5, n)}, []valve.Module{module("m1", 0, 1), module("m2", n, 5), none}, []valve.Module{module("m1", n, -n), module("m1", 5, 1)})
	}
	for _, n := range beyond(1, 100) {
		l[api.ErrRange] = append(l[api.ErrRange], []valve.Module{{Name: "m1", Hours: n}}, []valve.Module{{Name: "m1", From: 5, By: 4, Hours: n}}, []valve.Module{module("m1", 0, 1), {Name: "m2", Hours: n}, none})
	}
	return l
}

// badOutages returns outages with each error, most of them with later errors, too.
func badOutages() map[api.Errno][][]valve.Outage {
	none := valve.Outage{Tick: -1, Hours: -1, Cost: -1}
	l := map[api.Errno][][]valve.Outage{
		api.ErrMany:  {sameOutages(1, 1, 1, 1, 1, 1, 1, 1), make([]valve.Outage, 7), slices.Repeat([]valve.Outage{none}, 1000)},
		api.ErrOrder: {{{Tick: 1}, {Tick: 1}}, {{}, {}}, {{Tick: 5}, {Tick: 6}, {Tick: 5}, none}, {{Tick: 100000}, {Tick: 0}, none}},
	}
	for _, n := range beyond(0, 100000) {
		l[api.ErrRange] = append(l[api.ErrRange], []valve.Outage{{Tick: n}}, []valve.Outage{{Tick: 5}, {Tick: n, Hours: -1}, none}, []valve.Outage{{Tick: n}, {Tick: 5}, {Tick: 5}})
	}
	for _, n := range beyond(0, 100) {
		l[api.ErrRange] = append(l[api.ErrRange], []valve.Outage{{Hours: n}}, []valve.Outage{{Tick: 5}, {Tick: 5, Hours: n}}, []valve.Outage{{Tick: 5, Hours: n}, {Tick: 5}})
	}
	for _, n := range beyond(0, 1000000) {
		l[api.ErrRange] = append(l[api.ErrRange], []valve.Outage{{Cost: n}}, []valve.Outage{{Tick: 5}, {Tick: 5, Cost: n}}, []valve.Outage{{Tick: 5, Cost: n}, {Tick: 5}})
	}
	return l
}

// eachBadTask calls a function with modules and outages, and with the error that
// they have together.
func eachBadTask(f func(what string, m []valve.Module, o []valve.Outage, e api.Errno)) {
	for e, l := range badModules() {
		for _, m := range l {
			what := fmt.Sprintf("the modules %.200v", m)
			f(what, m, outages(4), e)
			f(what, m, nil, e)
			f(what, m, []valve.Outage{{Tick: 5}, {Tick: 5}}, e)
			f(what, m, make([]valve.Outage, 7), e)
		}
	}
	for e, l := range badOutages() {
		for _, o := range l {
			what := fmt.Sprintf("the outages %.200v", o)
			f(what, modules(), o, e)
			f(what, nil, o, e)
		}
	}
}

// eachBadPlan calls a function with modules, outages and a plan, and with the error
// that they have together.
func eachBadPlan(f func(what string, m []valve.Module, o []valve.Outage, plan []int, e api.Errno)) {
	eachBadTask(func(what string, m []valve.Module, o []valve.Outage, e api.Errno) {
		for _, plan := range [][]int{nil, {0, 1}, {-1}, make([]int, len(m))} {
			f(what, m, o, plan, e)
		}
	})
	bad := func(m []valve.Module, o []valve.Outage, e api.Errno, plan ...int) {
		f(fmt.Sprint("the plan ", plan, " of ", m, " and ", o), m, o, plan, e)
	}
	bad(modules(), outages(4), api.ErrShape)
	bad(modules(), outages(4), api.ErrShape, 0)
	bad(modules(), outages(4), api.ErrShape, -1)
	bad(modules(), outages(4), api.ErrShape, 0, 1, 9)
	bad(nil, outages(4), api.ErrShape, 0)
	bad(modules(), nil, api.ErrShape, 1)
	for _, n := range beyond(0, 1) {
		bad(modules(), outages(4), api.ErrUnknown, 0, n)
		bad(modules(), outages(4), api.ErrUnknown, n, 1)
		bad(modules(), outages(1), api.ErrUnknown, 0, n)
		bad(modules(), outages(4), api.ErrUnknown, n, n)
		bad(modules(), outages(4), api.ErrSpan, 1, n)
	}
	bad(modules(), nil, api.ErrUnknown, 0, 0)
	bad(modules(), outages(4), api.ErrSpan, 1, 1)
	bad(modules(), outages(1), api.ErrSpan, 1, 0)
	late := append(modules(), module("m3", 0, 7), module("m4", 9, 14), module("m5", 16, 99))
	for k := 2; k < 5; k++ {
		for i := range 2 {
			bad([]valve.Module{modules()[0], late[k]}, outages(100), api.ErrSpan, 0, i)
		}
	}
	bad(modules(), outages(4), api.ErrLimit, 0, 0)
	bad(modules(), outages(1), api.ErrLimit, 0, 1)
	bad(modules(), outages(0), api.ErrLimit, 0, 1)
	bad(sameModules(8, 100), sameOutages(100, 1, 1), api.ErrLimit, 0, 0, 0, 0, 0, 0, 0, 0)
	bad(sameModules(8, 1), sameOutages(4, 1, 1), api.ErrLimit, 0, 1, 1, 1, 1, 1, 0, 0)
}
