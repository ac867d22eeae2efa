package valve

import (
	"iter"
	"slices"

	"bipole/api"
	"bipole/check"
	"bipole/phasor"
	"bipole/whole"
)

// CheckModules returns the first error of modules, or OK.
func CheckModules(l []Module) api.Errno {
	return check.Successive(l, MaxModules, func(before []Module, m Module) api.Errno {
		return check.First(
			check.That(phasor.IsName(m.Name), api.ErrName),
			check.Once(before, m, func(m Module) string { return m.Name }),
			checkTick(m.From),
			checkTick(m.By),
			check.Range(m.Hours, 1, MaxHours),
			check.That(m.From <= m.By, api.ErrOrder))
	})
}

// CheckOutages returns the first error of outages, or OK.
func CheckOutages(l []Outage) api.Errno {
	return check.Successive(l, MaxOutages, func(before []Outage, o Outage) api.Errno {
		return check.First(
			checkTick(o.Tick),
			check.Range(o.Hours, 0, MaxHours),
			checkCost(o.Cost),
			checkLater(before, o))
	})
}

func (o Outage) tick() int {
	return o.Tick
}

// checkTask returns the first error of modules and of outages, or OK.
func checkTask(m []Module, o []Outage) api.Errno {
	return check.First(CheckModules(m), CheckOutages(o))
}

// permits reports whether a module can be replaced at an outage.
func (o Outage) permits(m Module) bool {
	return o.Tick >= m.From && o.Tick <= m.By
}

// permitted visits the outages that are permitted for a module, with their
// indices.
func permitted(o []Outage, m Module) iter.Seq2[int, Outage] {
	return func(yield func(int, Outage) bool) {
		for i, outage := range o {
			if outage.permits(m) && !yield(i, outage) {
				return
			}
		}
	}
}

// CheckPlan returns the cost of a plan.
func CheckPlan(m []Module, o []Outage, plan []int) (int, api.Errno) {
	if e := checkPlan(m, o, plan); e != api.OK {
		return 0, e
	}
	cost := 0
	for i, outage := range o {
		if slices.Contains(plan, i) {
			cost += outage.Cost
		}
	}
	return cost, api.OK
}

// checkPlan returns the first error of modules, of outages and of a plan, or OK.
func checkPlan(m []Module, o []Outage, plan []int) api.Errno {
	if e := checkTask(m, o); e != api.OK {
		return e
	}
	if len(plan) != len(m) {
		return api.ErrShape
	}
	for k, i := range plan {
		if e := check.Index(i, len(o)); e != api.OK {
			return e
		}
		if !o[i].permits(m[k]) {
			return api.ErrSpan
		}
	}
	return checkHours(m, o, plan)
}

// checkHours returns ErrLimit if the modules of an outage take more than its hours.
func checkHours(m []Module, o []Outage, plan []int) api.Errno {
	var hours [MaxOutages]int
	for k, i := range plan {
		hours[i] += m[k].Hours
	}
	for i, outage := range o {
		if hours[i] > outage.Hours {
			return api.ErrLimit
		}
	}
	return api.OK
}

// Plan returns the best plan, and its cost.
func Plan(m []Module, o []Outage) ([]int, int, api.Errno) {
	if e := checkTask(m, o); e != api.OK {
		return nil, 0, e
	}
	best, found := cheapest(m, o)
	if !found {
		return nil, 0, api.ErrInfeasible
	}
	return slices.Clone(best.outages[:len(m)]), best.cost, api.OK
}

// beginning is a plan of the first modules alone.
type beginning struct {
	outages [MaxModules]int // those of the first modules
	modules int             // how many they are
	hours   [MaxOutages]int // what they take of each outage
	cost    int
}

// cheapest returns the best plan, and whether there is one. Plans are tried in
// their order, so that the first one of its cost is found first.
func cheapest(m []Module, o []Outage) (beginning, bool) {
	prices, e := firstPrices(m, o)
	if e != api.OK {
		return beginning{}, false
	}
	proved := whole.Sum(prices)
	best, found := beginning{}, false
	waiting := []beginning{{}}
search:
	for len(waiting) > 0 {
		last := len(waiting) - 1
		b := waiting[last]
		waiting = waiting[:last]
		switch {
		case found && b.cost >= best.cost:
			continue
		case b.modules < len(m):
			waiting = append(waiting, b.continued(m[b.modules], o)...)
		default:
			best, found = b, true
			if b.cost == proved { // no plan is cheaper
				break search
			}
		}
	}
	return best, found
}

// continued returns the plans of one module more, the last one first.
func (b beginning) continued(m Module, o []Outage) []beginning {
	var l []beginning
	for i, outage := range permitted(o, m) {
		if b.hours[i]+m.Hours <= outage.Hours {
			l = append(l, b.with(m, i, outage))
		}
	}
	slices.Reverse(l)
	return l
}

// with returns the plan in which the next module is replaced at an outage.
func (b beginning) with(m Module, i int, o Outage) beginning {
	if b.hours[i] == 0 { // each module takes some, so that none has it yet
		b.cost += o.Cost
	}
	b.hours[i] += m.Hours
	b.outages[b.modules] = i
	b.modules++
	return b
}
