package arm

import (
	"bipole/api"
	"bipole/check"
	"bipole/list"
)

// Step returns an arm after an order.
func Step(a Arm, o Order) (Arm, api.Errno) {
	if e := check.First(CheckArm(a), checkOrder(o)); e != api.OK {
		return Arm{}, e
	}
	return step(a, o)
}

// step returns a well-formed arm after an order, or the error with which the
// order is refused.
func step(a Arm, o Order) (Arm, api.Errno) {
	if e := checkPossible(a, o); e != api.OK {
		return Arm{}, e
	}
	set := choice(a, o)
	next := a
	next.Modules = switched(a.Modules, set)
	for _, i := range set {
		charge := a.Modules[i].Charge + o.Current
		if e := checkInside(charge, a.Band); e != api.OK {
			return Arm{}, e
		}
		next.Modules[i].Charge = charge
	}
	return next, api.OK
}

// follow executes orders, shows the arm before and after each of them, and
// returns the arm after all, or the index of the order that is refused.
func follow(a Arm, l []Order, show func(before, after Arm, current int)) (Arm, int, api.Errno) {
	if e := check.First(CheckArm(a), checkOrders(l)); e != api.OK {
		return Arm{}, 0, e
	}
	now := copied(a)
	for i, o := range l {
		next, e := step(now, o)
		if e != api.OK {
			return Arm{}, i, e
		}
		show(now, next, o.Current)
		now = next
	}
	return now, 0, api.OK
}

// Run returns an arm after orders.
func Run(a Arm, l []Order) (Arm, int, api.Errno) {
	return follow(a, l, func(Arm, Arm, int) {})
}

// Work returns the energy that flows in with orders.
func Work(a Arm, l []Order) (int, api.Errno) {
	sum := 0
	_, _, e := follow(a, l, func(before, after Arm, current int) {
		sum += work(before, after, current)
	})
	if e != api.OK {
		return 0, e
	}
	return sum, api.OK
}

// work returns the work of the order that leads from an arm to another one.
func work(before, after Arm, current int) int {
	sum := 0
	for i, m := range usable(after) {
		if m.On {
			sum += current * (before.Modules[i].Charge + m.Charge)
		}
	}
	return sum
}

// Log returns the charges of all modules after each order.
func Log(a Arm, l []Order) ([][]float32, api.Errno) {
	var rows [][]float32
	_, _, e := follow(a, l, func(_, after Arm, _ int) {
		rows = append(rows, list.Mapped(after.Modules, sampleOf))
	})
	if e != api.OK {
		return nil, e
	}
	return rows, api.OK
}

// sampleOf returns the charge of a module as a sample. It is exact: a charge
// has fewer bits than a float32.
func sampleOf(m Module) float32 {
	return float32(m.Charge) / 16
}
