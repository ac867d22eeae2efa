package arm_test

import (
	"fmt"
	"math/rand"
	"slices"
	"testing"

	"bipole/api"
	"bipole/arm"
)

// P2.2
func TestChooseOfExamples(t *testing.T) {
	for _, x := range []struct {
		limit, number, current int
		set                    []int
		e                      api.Errno
	}{
		{2, 1, 10, []int{2}, api.OK}, {2, 1, -10, []int{1}, api.OK}, {2, 1, 0, []int{2}, api.OK}, {3, 1, 10, []int{2}, api.OK},
		{1, 1, 10, []int{0}, api.OK}, {1, 1, -10, []int{0}, api.OK}, {0, 1, 10, []int{0}, api.OK}, {0, 1, -10, []int{0}, api.OK},
		{2, 2, 10, []int{0, 2}, api.OK}, {2, 2, -10, []int{0, 1}, api.OK}, {1, 2, -10, []int{0, 1}, api.OK},
		{3, 2, 10, []int{0, 2}, api.OK}, {3, 2, -10, []int{0, 1}, api.OK},
		{2, 3, 20, []int{0, 1, 2}, api.OK}, {2, 3, -20, []int{0, 1, 2}, api.OK}, {2, 0, 0, []int{}, api.OK}, {1, 0, 20, []int{}, api.OK},
		{1, 3, 10, nil, api.ErrRule}, {0, 0, 10, nil, api.ErrRule}, {0, 2, 10, nil, api.ErrRule},
		{2, 4, 10, nil, api.ErrInfeasible}, {0, 4, 10, nil, api.ErrInfeasible}, {16, 16, 0, nil, api.ErrInfeasible},
		{2, 1, 21, nil, api.ErrTrip}, {2, 1, -21, nil, api.ErrTrip}, {2, 4, 21, nil, api.ErrTrip}, {0, 3, -1000, nil, api.ErrTrip},
		{2, -1, 21, nil, api.ErrRange}, {2, 17, 10, nil, api.ErrRange}, {2, 1, 1001, nil, api.ErrRange}, {2, 1, -1001, nil, api.ErrRange},
	} {
		set, e := arm.Choose(limited(x.limit), arm.Order{Number: x.number, Current: x.current})
		what := fmt.Sprint("the limit, the order: ", x.limit, x.number, x.current)
		isList(t, what, set, x.set)
		is(t, what, e, x.e)
	}
}

// P2.2: of equal charges one that is on is better, then the lesser index; and
// nothing is exchanged that is not strictly better.
func TestChooseAmongEqual(t *testing.T) {
	for _, x := range []struct {
		what            string
		charges         []int
		number, current int
		set             []int
	}{
		{"the lesser index is added", []int{5, 5, 5}, 2, 1, []int{0, 1}},
		{"the lesser index is added for a current below 0", []int{5, 5, 5}, 2, -1, []int{0, 1}},
		{"one that is on stays", []int{5, 5, -5}, 1, 1, []int{2}},
		{"one that is on stays for a current below 0", []int{5, 5, -5}, 1, -1, []int{2}},
		{"the greater index is taken away", []int{-5, -5, -5}, 1, 1, []int{0}},
		{"the greater index is taken away for a current below 0", []int{-5, -5, -5}, 2, -1, []int{0, 1}},
		{"no exchange with an equal one", []int{5, -5, 5, -7}, 2, 1, []int{0, 1}},
		{"one that is on is better than an equal one", []int{-7, 5, -5, 5}, 1, 1, []int{2}},
		{"the better one of two is added", []int{7, 6, 7, -1}, 2, 1, []int{1, 3}},
		{"the better one of two is added for a current below 0", []int{6, 7, 6, -9}, 2, -1, []int{1, 3}},
		{"all are exchanged", []int{-9, -8, -7, 1, 2, 3}, 3, 1, []int{3, 4, 5}},
		{"none is exchanged for the opposite current", []int{-9, -8, -7, 1, 2, 3}, 3, -1, []int{0, 1, 2}},
		{"all are exchanged for the opposite current", []int{-1, -2, -3, 7, 8, 9}, 3, -1, []int{3, 4, 5}},
		{"as many as are strictly better", []int{-1, -9, -4, 2, 3, 5}, 3, 1, []int{0, 3, 4}},
		{"an exchange and an addition", []int{-9, 1, 2, 3}, 2, 1, []int{1, 2}},
		{"an exchange and a removal", []int{-9, -8, -7, 1}, 1, 1, []int{3}},
		{"no current is one of at least 0", []int{-9, 1}, 1, 0, []int{1}},
	} {
		set, e := arm.Choose(row(x.charges...), arm.Order{Number: x.number, Current: x.current})
		isList(t, x.what, set, x.set)
		is(t, x.what, e, api.OK)
	}
}

// P2.2: the exchanges are those of the worst with the best, while two more switchings are permitted.
func TestChooseWithinLimits(t *testing.T) {
	a := row(-9, -8, -7, 1, 2, 3)
	for limit, want := range [][]int{{0, 1, 2}, {0, 1, 2}, {1, 2, 3}, {1, 2, 3}, {2, 3, 4}, {2, 3, 4}, {3, 4, 5}, {3, 4, 5}} {
		a.Limit = limit
		set, _ := arm.Choose(a, arm.Order{Number: 3, Current: 1})
		isList(t, fmt.Sprint("exchanges within ", limit), set, want)
	}
	for limit, want := range [][]int{nil, {0, 1, 2, 3}, {0, 1, 2, 3}, {1, 2, 3, 4}, {1, 2, 3, 4}, {2, 3, 4, 5}, {2, 3, 4, 5}, {2, 3, 4, 5}} {
		a.Limit = limit
		set, _ := arm.Choose(a, arm.Order{Number: 4, Current: 1})
		isList(t, fmt.Sprint("exchanges and an addition within ", limit), set, want)
	}
	for limit, want := range [][]int{nil, {1, 2}, {1, 2}, {2, 3}, {2, 3}, {3, 4}, {3, 4}} {
		a.Limit = limit
		set, _ := arm.Choose(a, arm.Order{Number: 2, Current: 1})
		isList(t, fmt.Sprint("exchanges and a removal within ", limit), set, want)
	}
}

// P2.2
func TestChooseWithoutUsable(t *testing.T) {
	set, e := arm.Choose(out(), arm.Order{Current: 20})
	isList(t, "the order 0", set, nil)
	is(t, "the order 0", e, api.OK)
	_, e = arm.Choose(out(), arm.Order{Number: 1})
	is(t, "the order 1", e, api.ErrInfeasible)
	b, e := arm.Step(out(), arm.Order{Current: -20})
	isArm(t, "after the order 0", b, out())
	is(t, "after the order 0", e, api.OK)
}

// badOrders returns orders that are out of their ranges.
func badOrders() []arm.Order {
	var l []arm.Order
	for _, n := range beyond(0, 16) {
		l = append(l, arm.Order{Number: n}, arm.Order{Number: n, Current: 1001})
	}
	for _, n := range beyond(-1000, 1000) {
		l = append(l, arm.Order{Current: n}, arm.Order{Number: 16, Current: n})
	}
	return l
}

// P2.2: what is out of its range is told before the order is refused.
func TestOrdersOutOfRange(t *testing.T) {
	for _, o := range badOrders() {
		_, e1 := arm.Choose(limited(0), o)
		_, e2 := arm.Step(limited(0), o)
		_, e3 := arm.Bound(limited(0), o)
		is(t, fmt.Sprint(o), [3]api.Errno{e1, e2, e3}, [3]api.Errno{api.ErrRange, api.ErrRange, api.ErrRange})
	}
}

// P2.2
func TestChanges(t *testing.T) {
	for _, x := range []struct {
		set []int
		n   int
		e   api.Errno
	}{
		{nil, 1, api.OK}, {[]int{0}, 0, api.OK}, {[]int{1}, 2, api.OK}, {[]int{0, 1}, 1, api.OK}, {[]int{1, 2}, 3, api.OK}, {[]int{0, 1, 2}, 2, api.OK},
		{[]int{3}, 0, api.ErrUnknown}, {[]int{4}, 0, api.ErrUnknown}, {[]int{-1}, 0, api.ErrUnknown}, {[]int{0, 1, 2, 3}, 0, api.ErrUnknown}, {[]int{2, -1}, 0, api.ErrUnknown}, {[]int{1 << 62}, 0, api.ErrUnknown},
		{[]int{1, 0}, 0, api.ErrOrder}, {[]int{1, 1}, 0, api.ErrOrder}, {[]int{0, 2, 1}, 0, api.ErrOrder}, {[]int{2, 1, 3}, 0, api.ErrOrder}, {[]int{3, 1, 0}, 0, api.ErrUnknown}, {[]int{0, 0}, 0, api.ErrOrder},
		{make([]int, 16), 0, api.ErrOrder}, {make([]int, 17), 0, api.ErrMany}, {slices.Repeat([]int{-1}, 17), 0, api.ErrMany}, {slices.Repeat([]int{-1}, 16), 0, api.ErrUnknown},
	} {
		n, e := arm.Changes(limited(0), x.set)
		is(t, fmt.Sprint("to ", x.set), n, x.n)
		is(t, fmt.Sprint("to ", x.set), e, x.e)
	}
	all := []int{0, 1, 2, 3, 4, 5, 6, 7, 8, 9, 10, 11, 12, 13, 14, 15}
	n, e := arm.Changes(row(make([]int, 16)...), all)
	is(t, "to all", n, 16)
	is(t, "to all", e, api.OK)
}

// P2.2
func TestStep(t *testing.T) {
	for _, x := range []struct {
		what   string
		a      arm.Arm
		o      arm.Order
		change func(a *arm.Arm)
	}{
		{"the order 1", shown(), arm.Order{Number: 1, Current: 10}, func(a *arm.Arm) {
			a.Modules[0].On = false
			a.Modules[2] = arm.Module{Name: "c", Charge: 120, On: true}
		}},
		{"the order 1 with a current below 0", shown(), arm.Order{Number: 1, Current: -10}, func(a *arm.Arm) {
			a.Modules[0].On = false
			a.Modules[1] = arm.Module{Name: "b", Charge: 140, On: true}
		}},
		{"the order 1 without a current", limited(1), arm.Order{Number: 1}, func(a *arm.Arm) { a.Limit = 1 }},
		{"the order 0", shown(), arm.Order{Current: 20}, func(a *arm.Arm) { a.Modules[0].On = false }},
		{"the order 3", shown(), arm.Order{Number: 3, Current: 20}, func(a *arm.Arm) {
			a.Modules[0].Charge = 140
			a.Modules[1] = arm.Module{Name: "b", Charge: 170, On: true}
			a.Modules[2] = arm.Module{Name: "c", Charge: 130, On: true}
		}},
		{"down to the end of the band", limited(0), arm.Order{Number: 1, Current: -20}, func(a *arm.Arm) { a.Limit, a.Modules[0].Charge = 0, 100 }},
	} {
		want := shown()
		x.change(&want)
		b, e := arm.Step(x.a, x.o)
		isArm(t, x.what, b, want)
		is(t, x.what, e, api.OK)
	}
}

// P2.2: an order that is refused has no arm after it.
func TestStepIsRefused(t *testing.T) {
	low, high := with(func(a *arm.Arm) { a.Modules[0].Charge, a.Limit = 119, 0 }), with(func(a *arm.Arm) { a.Modules[0].Charge, a.Limit = 181, 0 })
	for _, x := range []struct {
		what string
		a    arm.Arm
		o    arm.Order
		e    api.Errno
	}{
		{"the current", shown(), arm.Order{Number: 4, Current: 21}, api.ErrTrip},
		{"the current below 0", shown(), arm.Order{Number: 4, Current: -21}, api.ErrTrip},
		{"the number", limited(0), arm.Order{Number: 4, Current: -20}, api.ErrInfeasible},
		{"the limit", limited(1), arm.Order{Number: 3, Current: -20}, api.ErrRule},
		{"the limit for fewer", limited(0), arm.Order{Current: -20}, api.ErrRule},
		{"the band", shown(), arm.Order{Number: 3, Current: -20}, api.ErrBand},
		{"one below the band", low, arm.Order{Number: 1, Current: -20}, api.ErrBand},
		{"one above the band", high, arm.Order{Number: 1, Current: 20}, api.ErrBand},
		{"the band of the last module alone", row(-1000, -1000, -999), arm.Order{Number: 3, Current: -1000}, api.ErrBand},
		{"the band of the first module alone", row(-15385, -1000, -999), arm.Order{Number: 3, Current: 1000}, api.ErrBand},
	} {
		b, e := arm.Step(x.a, x.o)
		isArm(t, x.what, b, arm.Arm{})
		is(t, x.what, e, x.e)
	}
	for _, o := range []arm.Order{{Number: 3, Current: -20}, {Number: 3, Current: -11}} {
		_, e := arm.Choose(shown(), o)
		is(t, "Choose does not ask for the band", e, api.OK)
		_, e = arm.Bound(shown(), o)
		is(t, "Bound does not ask for the band", e, api.OK)
	}
}

// P2.2
func TestBound(t *testing.T) {
	for _, x := range []struct {
		what            string
		a               arm.Arm
		number, current int
		bound           int
		e               api.Errno
	}{
		{"the example", shown(), 1, 10, 50, api.OK},
		{"a current below 0", shown(), 1, -10, 50, api.OK},
		{"no current", shown(), 1, 0, 40, api.OK},
		{"one switching less than modules", limited(3), 1, -20, 60, api.OK},
		{"as many switchings as modules", limited(4), 1, -20, 40, api.OK},
		{"as many switchings as modules, of which not all are usable", limited(3), 0, 20, 60, api.OK},
		{"more switchings than modules", limited(16), 1, 20, 40, api.OK},
		{"a current above the spread", row(5, 7), 1, 9, 9, api.OK},
		{"a current below 0 above the spread", row(5, 7), 1, -9, 9, api.OK},
		{"no usable modules", out(), 0, -20, 20, api.OK},
		{"a trip", shown(), 4, 21, 0, api.ErrTrip},
		{"too few modules", limited(0), 4, 20, 0, api.ErrInfeasible},
		{"too few switchings", limited(1), 3, 20, 0, api.ErrRule},
	} {
		n, e := arm.Bound(x.a, arm.Order{Number: x.number, Current: x.current})
		is(t, x.what, n, x.bound)
		is(t, x.what, e, x.e)
	}
}

// P2.2: all results are those of the definitions.
func TestChoicesOfMany(t *testing.T) {
	r := rand.New(rand.NewSource(22))
	seen := map[api.Errno]int{}
	for range 20000 {
		a := randomArm(r)
		o := randomOrder(r, a)
		if r.Intn(20) == 0 {
			o.Current *= 2
		}
		what := fmt.Sprint(a, o)
		want, switchings, wanted := chosen(a, o)
		set, e := arm.Choose(a, o)
		isList(t, what, set, want)
		is(t, what, e, wanted)
		n, e := arm.Changes(a, want)
		if wanted == api.OK {
			is(t, what, n, switchings)
		}
		is(t, what, e, api.OK)
		next, _, wanted := after(a, o)
		b, e := arm.Step(a, o)
		isArm(t, what, b, next)
		is(t, what, e, wanted)
		seen[wanted]++
	}
	for _, e := range []api.Errno{api.OK, api.ErrTrip, api.ErrInfeasible, api.ErrRule, api.ErrBand} {
		if seen[e] < 100 {
			t.Errorf("only %d of the orders have the result %d", seen[e], e)
		}
	}
}
