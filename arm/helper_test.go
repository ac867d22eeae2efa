package arm_test

import (
	"math"
	"math/rand"
	"slices"
	"strconv"
	"testing"

	"bipole/api"
	"bipole/arm"
)

// is fails a test if a result is not the expected one.
func is[T comparable](t *testing.T, what string, got, want T) {
	t.Helper()
	if got != want {
		t.Errorf("%s: got %v, want %v", what, got, want)
	}
}

// isList fails a test if a list is not the expected one; nil and empty lists are equal.
func isList[T comparable](t *testing.T, what string, got, want []T) {
	t.Helper()
	if !slices.Equal(got, want) {
		t.Errorf("%s: got %v, want %v", what, got, want)
	}
}

// isArm fails a test if an arm is not the expected one.
func isArm(t *testing.T, what string, got, want arm.Arm) {
	t.Helper()
	isList(t, what+": modules", got.Modules, want.Modules)
	got.Modules, want.Modules = nil, nil
	is(t, what+": the rest", [4]int{got.Band.Low, got.Band.High, got.Current, got.Limit}, [4]int{want.Band.Low, want.Band.High, want.Current, want.Limit})
}

// shown returns the arm A of the chapter's examples.
func shown() arm.Arm {
	return arm.Arm{
		Modules: []arm.Module{{Name: "a", Charge: 120, On: true}, {Name: "b", Charge: 150}, {Name: "c", Charge: 110}, {Name: "d", Charge: 180, Bypassed: true}},
		Band:    api.Interval{Low: 100, High: 200},
		Current: 20,
		Limit:   2,
	}
}

// with returns the arm A of the examples with a change.
func with(change func(a *arm.Arm)) arm.Arm {
	a := shown()
	change(&a)
	return a
}

// limited returns the arm A of the examples with another limit.
func limited(limit int) arm.Arm {
	return with(func(a *arm.Arm) { a.Limit = limit })
}

// out returns an arm all of whose modules are bypassed.
func out() arm.Arm {
	return with(func(a *arm.Arm) {
		for i := range a.Modules {
			a.Modules[i].On, a.Modules[i].Bypassed = false, true
		}
	})
}

// row returns an arm with the limit 16, the band 0 to 16384, the greatest
// current 1000, and modules with these charges; a charge below 0 is that of a
// module which is on.
func row(charges ...int) arm.Arm {
	a := arm.Arm{Band: api.Interval{High: 16384}, Current: 1000, Limit: 16}
	for i, charge := range charges {
		a.Modules = append(a.Modules, arm.Module{Name: "m" + strconv.Itoa(i), Charge: max(charge, -charge), On: charge < 0})
	}
	return a
}

// randomArm returns an arm with few different charges, so that many are equal.
func randomArm(r *rand.Rand) arm.Arm {
	low := r.Intn(1000)
	a := arm.Arm{Band: api.Interval{Low: low, High: low + 1 + r.Intn(60)}, Current: r.Intn(20), Limit: r.Intn(17)}
	if r.Intn(3) == 0 {
		a.Limit = 16
	}
	for i := range 1 + r.Intn(16) {
		m := arm.Module{Name: "m" + strconv.Itoa(i), Charge: low + r.Intn(a.Band.High-low+1), On: r.Intn(2) == 0}
		if r.Intn(5) == 0 {
			m.On, m.Bypassed = false, true
		}
		a.Modules = append(a.Modules, m)
	}
	return a
}

// randomOrder returns an order that an arm hardly ever refuses by its current.
func randomOrder(r *rand.Rand, a arm.Arm) arm.Order {
	return arm.Order{Number: r.Intn(len(a.Modules) + 1), Current: r.Intn(2*a.Current+1) - a.Current}
}

// copyOf returns an arm that shares no memory with the given one.
func copyOf(a arm.Arm) arm.Arm {
	a.Modules = slices.Clone(a.Modules)
	return a
}

// better reports whether the usable module i is better than j for a current.
func better(a arm.Arm, current, i, j int) bool {
	x, y := a.Modules[i], a.Modules[j]
	switch {
	case x.Charge != y.Charge && current >= 0:
		return x.Charge < y.Charge
	case x.Charge != y.Charge:
		return x.Charge > y.Charge
	case x.On != y.On:
		return x.On
	}
	return i < j
}

// best returns the best one of the usable modules that are in the set, or that
// are not, or the worst one; -1 if there is none.
func best(a arm.Arm, current int, set map[int]bool, inside, worst bool) int {
	found := -1
	for i, m := range a.Modules {
		if m.Bypassed || set[i] != inside {
			continue
		}
		if found < 0 || better(a, current, i, found) != worst {
			found = i
		}
	}
	return found
}

// chosen is the definition of the choice, written once more: the choice, and
// the number of its switchings.
func chosen(a arm.Arm, o arm.Order) ([]int, int, api.Errno) {
	set := map[int]bool{}
	usable, switchings := 0, 0
	for i, m := range a.Modules {
		if m.On {
			set[i] = true
		}
		if !m.Bypassed {
			usable++
		}
	}
	if o.Current > a.Current || o.Current < -a.Current {
		return nil, 0, api.ErrTrip
	}
	if usable < o.Number {
		return nil, 0, api.ErrInfeasible
	}
	for ; len(set) < o.Number; switchings++ {
		set[best(a, o.Current, set, false, false)] = true
	}
	for ; len(set) > o.Number; switchings++ {
		delete(set, best(a, o.Current, set, true, true))
	}
	if switchings > a.Limit {
		return nil, 0, api.ErrRule
	}
	for switchings+2 <= a.Limit {
		in, off := best(a, o.Current, set, false, false), best(a, o.Current, set, true, true)
		if in < 0 || off < 0 || !better(a, o.Current, in, off) || a.Modules[in].Charge == a.Modules[off].Charge {
			break
		}
		delete(set, off)
		set[in] = true
		switchings += 2
	}
	var l []int
	for i := range a.Modules {
		if set[i] {
			l = append(l, i)
		}
	}
	return l, switchings, api.OK
}

// after is the definition of the arm after an order, written once more, with the
// work of the order.
func after(a arm.Arm, o arm.Order) (arm.Arm, int, api.Errno) {
	set, _, e := chosen(a, o)
	if e != api.OK {
		return arm.Arm{}, 0, e
	}
	next, work := copyOf(a), 0
	for i := range next.Modules {
		m := &next.Modules[i]
		m.On = slices.Contains(set, i)
		if !m.On {
			continue
		}
		work += o.Current * (2*m.Charge + o.Current)
		m.Charge += o.Current
		if m.Charge < a.Band.Low || m.Charge > a.Band.High {
			return arm.Arm{}, 0, api.ErrBand
		}
	}
	return next, work, api.OK
}

// beyond returns integers that are not from low to high.
func beyond(low, high int) []int {
	return []int{low - 1, high + 1, -1 << 40, 1 << 40, math.MinInt, math.MaxInt}
}
