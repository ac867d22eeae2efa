package flow

import (
	"slices"

	"bipole/api"
	"bipole/check"
	"bipole/whole"
)

// CheckRules returns the first error of rules, or OK.
func CheckRules(x Rules) api.Errno {
	return check.First(check.Range(x.Rate, 1, MaxPower), check.Interval(x.band(), -MaxPower, MaxPower))
}

// band returns the powers that rules permit.
func (x Rules) band() api.Interval {
	return api.Interval{Low: x.Low, High: x.High}
}

// checkPlan returns the first error of what is followed, or OK.
func checkPlan(x Rules, from int, l []Order) api.Errno {
	return check.First(CheckRules(x), check.Range(from, x.Low, x.High), CheckOrders(l))
}

// leg is an order that is followed.
type leg struct {
	Order
	before Order // the power before it, and the tick from which on it is held
}

// legs returns orders as they are followed from a power on.
func legs(from int, l []Order) []leg {
	var followed []leg
	before := Order{Tick: 0, Power: from}
	for _, o := range l {
		followed = append(followed, leg{Order: o, before: before})
		before = o
	}
	return followed
}

// change returns by how much an order changes the power, without the sign.
func (l leg) change() int {
	return whole.Absolute(l.Power - l.before.Power)
}

// refusal returns the error with which rules refuse an order, or OK.
func (x Rules) refusal(l leg) api.Errno {
	if check.Range(l.Power, x.Low, x.High) != api.OK {
		return api.ErrBand
	}
	if l.change() > x.Rate*(l.Tick-l.before.Tick) {
		return api.ErrRule
	}
	return api.OK
}

// ramp returns the power at a tick from that of the order before to that of the
// order.
func (x Rules) ramp(l leg, tick int) int {
	left := x.Rate * (l.Tick - tick)
	if l.Power > l.before.Power {
		return max(l.before.Power, l.Power-left)
	}
	return min(l.before.Power, l.Power+left)
}

// Refused returns the first order that is refused, and whether there is one.
func Refused(x Rules, from int, l []Order) (int, bool, api.Errno) {
	if e := checkPlan(x, from, l); e != api.OK {
		return 0, false, e
	}
	for i, followed := range legs(from, l) {
		if x.refusal(followed) != api.OK {
			return i, true, api.OK
		}
	}
	return 0, false, api.OK
}

// Ramp returns the power at each of the first ticks.
func Ramp(x Rules, from int, l []Order, ticks int) ([]int, api.Errno) {
	if e := check.First(checkPlan(x, from, l), check.Range(ticks, 1, MaxTicks)); e != api.OK {
		return nil, e
	}
	followed := legs(from, l)
	if e := check.Each(followed, x.refusal); e != api.OK {
		return nil, e
	}
	powers := make([]int, ticks)
	for tick := range ticks {
		powers[tick] = power(x, from, followed, tick)
	}
	return powers, api.OK
}

// power returns the power at a tick of orders that are followed from a power on.
func power(x Rules, from int, followed []leg, tick int) int {
	next := slices.IndexFunc(followed, func(l leg) bool { return l.Tick >= tick })
	if next >= 0 {
		return x.ramp(followed[next], tick)
	}
	if n := len(followed); n > 0 {
		return followed[n-1].Power
	}
	return from
}

// Latest returns the tick at which the ramp to an order begins.
func Latest(x Rules, from int, l []Order, order int) (int, api.Errno) {
	if e := check.First(checkPlan(x, from, l), check.Index(order, len(l))); e != api.OK {
		return 0, e
	}
	followed := legs(from, l[:order+1])
	if e := check.Each(followed, x.refusal); e != api.OK {
		return 0, e
	}
	last := followed[order]
	return last.Tick - whole.RoundedUp(last.change(), x.Rate), api.OK
}
