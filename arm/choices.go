package arm

import (
	"cmp"
	"slices"

	"bipole/api"
	"bipole/check"
	"bipole/list"
	"bipole/whole"
)

// candidate is a usable module as an order sees it.
type candidate struct {
	index int
	key   int // the less, the better: its charge, or the opposite of it
	on    bool
}

// candidates returns the usable modules, the best one for an order first.
func candidates(a Arm, o Order) []candidate {
	sign := 1
	if o.Current < 0 {
		sign = -1
	}
	var l []candidate
	for i, m := range usable(a) {
		l = append(l, candidate{index: i, key: sign * m.Charge, on: m.On})
	}
	slices.SortFunc(l, candidate.compare)
	return l
}

// compare returns -1 if a candidate is better than another one, and 1 if it is
// worse.
func (c candidate) compare(other candidate) int {
	if c.key == other.key && c.on != other.on {
		if c.on {
			return -1
		}
		return 1
	}
	return cmp.Or(cmp.Compare(c.key, other.key), cmp.Compare(c.index, other.index))
}

// Choose returns the modules that are inserted for an order.
func Choose(a Arm, o Order) ([]int, api.Errno) {
	if e := checkChoice(a, o); e != api.OK {
		return nil, e
	}
	return choice(a, o), api.OK
}

// checkChoice returns the first error of an arm and of an order, or that of
// checkPossible.
func checkChoice(a Arm, o Order) api.Errno {
	if e := check.First(CheckArm(a), checkOrder(o)); e != api.OK {
		return e
	}
	return checkPossible(a, o)
}

// checkPossible returns the error with which a well-formed order is refused
// before any charge is asked for, or OK.
func checkPossible(a Arm, o Order) api.Errno {
	if whole.Absolute(o.Current) > a.Current {
		return api.ErrTrip
	}
	if o.Number > len(usableIndices(a)) {
		return api.ErrInfeasible
	}
	if needed(a, o) > a.Limit {
		return api.ErrRule
	}
	return api.OK
}

// needed returns the switchings of an order before any exchange.
func needed(a Arm, o Order) int {
	missing := o.Number
	for _, m := range usable(a) {
		if m.On {
			missing--
		}
	}
	return whole.Absolute(missing)
}

// choice returns the choice for an order that is possible.
func choice(a Arm, o Order) []int {
	l := candidates(a, o)
	chosen := list.Mapped(l, func(c candidate) bool { return c.on })
	resize(chosen, o.Number)
	exchange(chosen, l, (a.Limit-needed(a, o))/2)
	var set []int
	for i, c := range l {
		if chosen[i] {
			set = append(set, c.index)
		}
	}
	slices.Sort(set)
	return set
}

// resize adds the best candidates to those that are chosen, or takes the worst
// ones away, until there are as many as ordered.
func resize(chosen []bool, number int) {
	for i := range chosen {
		if number == 0 {
			chosen[i] = false
		} else if chosen[i] {
			number--
		}
	}
	for i := range chosen {
		if number > 0 && !chosen[i] {
			chosen[i] = true
			number--
		}
	}
}

// exchange puts the best candidates that are not chosen in the place of the
// worst ones that are, as long as they are strictly better, at most so many
// times. What it exchanged is never asked for again: it is worse than all that
// are chosen then.
func exchange(chosen []bool, l []candidate, times int) {
exchanges:
	for best := range l {
		worst := lastChosen(chosen)
		switch {
		case chosen[best]:
			continue
		case times == 0, worst < 0, l[best].key >= l[worst].key:
			break exchanges
		}
		chosen[best], chosen[worst] = true, false
		times--
	}
}

// lastChosen returns the index of the worst candidate that is chosen, or -1.
func lastChosen(chosen []bool) int {
	last := -1
	for i, is := range chosen {
		if is {
			last = i
		}
	}
	return last
}

// switched returns modules of which those of a set are on.
func switched(l []Module, set []int) []Module {
	result := slices.Clone(l)
	for i := range len(result) {
		result[i].On = slices.Contains(set, i)
	}
	return result
}

// Changes returns the number of switchings to a set.
func Changes(a Arm, set []int) (int, api.Errno) {
	if e := CheckArm(a); e != api.OK {
		return 0, e
	}
	if e := checkSet(set, a); e != api.OK {
		return 0, e
	}
	changes := 0
	for i, m := range switched(a.Modules, set) {
		if m != a.Modules[i] {
			changes++
		}
	}
	return changes, api.OK
}

// Bound returns a bound of the spread after an order.
func Bound(a Arm, o Order) (int, api.Errno) {
	if e := checkChoice(a, o); e != api.OK {
		return 0, e
	}
	if a.Limit >= len(a.Modules) {
		return max(spread(a), whole.Absolute(o.Current)), api.OK
	}
	return spread(a) + whole.Absolute(o.Current), api.OK
}
