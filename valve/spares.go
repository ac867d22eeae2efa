package valve

import (
	"cmp"
	"slices"

	"bipole/api"
	"bipole/check"
)

// Spares returns the spares that a plan needs.
func Spares(m []Module, o []Outage, plan []int, l []Delivery) (int, api.Errno) {
	if e := check.First(checkPlan(m, o, plan), check.List(l, MaxDeliveries, checkDelivery)); e != api.OK {
		return 0, e
	}
	coming := slices.Clone(l)
	slices.SortFunc(coming, Delivery.compare)
	needed, missing := 0, 0
	for i, outage := range o {
		for len(coming) > 0 && coming[0].Tick <= outage.Tick {
			missing -= coming[0].Count
			coming = coming[1:]
		}
		missing += replaced(plan, i)
		needed = max(needed, missing)
	}
	return needed, api.OK
}

func checkDelivery(d Delivery) api.Errno {
	return check.First(checkTick(d.Tick), check.Range(d.Count, 1, MaxCount))
}

// compare returns -1 for a delivery that comes before another one.
func (d Delivery) compare(other Delivery) int {
	return cmp.Compare(d.Tick, other.Tick)
}

// replaced returns how many modules a plan replaces at an outage.
func replaced(plan []int, outage int) int {
	modules := 0
	for _, i := range plan {
		if i == outage {
			modules++
		}
	}
	return modules
}
