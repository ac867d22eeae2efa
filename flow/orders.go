package flow

import (
	"cmp"
	"slices"

	"bipole/api"
	"bipole/check"
)

// CheckOrders returns the first error of orders, or OK.
func CheckOrders(l []Order) api.Errno {
	return check.Successive(l, MaxOrders, checkOrder)
}

func checkOrder(before []Order, o Order) api.Errno {
	return check.First(
		check.Range(o.Tick, 0, api.MaxTime),
		checkOrdered(o),
		check.Above(before, o, Order.compare))
}

// checkOrdered returns ErrRange for a power that no order has.
func checkOrdered(o Order) api.Errno {
	return check.Range(o.Power, -MaxPower, MaxPower)
}

// compare returns -1 for an order that is earlier than another one.
func (o Order) compare(other Order) int {
	return cmp.Compare(o.Tick, other.Tick)
}

// Merged returns the orders of two markets together.
func Merged(a, b []Order) ([]Order, api.Errno) {
	if e := check.First(CheckOrders(a), CheckOrders(b)); e != api.OK {
		return nil, e
	}
	merged := merge(a, b)
	if len(merged) > MaxOrders {
		return nil, api.ErrMany
	}
	if check.Each(merged, checkOrdered) != api.OK {
		return nil, api.ErrLarge
	}
	return merged, api.OK
}

func merge(a, b []Order) []Order {
	powers := map[int]int{}
	for _, o := range slices.Concat(a, b) {
		powers[o.Tick] = asked(a, o.Tick) + asked(b, o.Tick)
	}
	var merged []Order
	for tick, power := range powers {
		merged = append(merged, Order{Tick: tick, Power: power})
	}
	slices.SortFunc(merged, Order.compare)
	return merged
}

// asked returns the power that orders ask for at a tick.
func asked(l []Order, tick int) int {
	for _, o := range slices.Backward(l) {
		if o.Tick <= tick {
			return o.Power
		}
	}
	return 0
}
