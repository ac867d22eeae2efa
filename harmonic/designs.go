package harmonic

import (
	"iter"

	"bipole/api"
	"bipole/check"
)

// firstLimited is the first order that has a limit.
const firstLimited = 2

func checkLimits(limits [7]int) api.Errno {
	return check.Each(limits[:], func(limit int) api.Errno { return check.Range(limit, 0, Unit) })
}

// Excess returns the orders in excess.
func Excess(p [12]int, limits [7]int) ([]int, api.Errno) {
	if e := check.First(checkPattern(p), checkLimits(limits)); e != api.OK {
		return nil, e
	}
	return excess(spectrum(p), limits), api.OK
}

func excess(s [Steps]Cyclo, limits [7]int) []int {
	base := strength(s[1])
	return ordersWhere(firstLimited, lastOrder, func(h int) bool {
		return isGreater(times(Unit, strength(s[h])), times(limits[h], base))
	})
}

// Quarter returns the quarter pattern of three levels.
func Quarter(l [3]int) ([12]int, api.Errno) {
	if e := check.Each(l[:], checkLevel); e != api.OK {
		return [Steps]int{}, e
	}
	return quarter(l), api.OK
}

func quarter(l [3]int) [Steps]int {
	a, b, c := l[0], l[1], l[2]
	return [Steps]int{a, b, c, c, b, a, -a, -b, -c, -c, -b, -a}
}

// Design returns the design for a greatest level and limits.
func Design(most int, limits [7]int) ([3]int, api.Errno) {
	if e := check.First(check.Range(most, 0, MaxDesign), checkLimits(limits)); e != api.OK {
		return [3]int{}, e
	}
	var design [3]int
	var greatest Root
	for l := range triples(most) {
		s := spectrum(quarter(l))
		base := strength(s[1])
		if isGreater(base, greatest) && len(excess(s, limits)) == 0 {
			design, greatest = l, base
		}
	}
	if greatest == (Root{}) {
		return [3]int{}, api.ErrInfeasible
	}
	return design, api.OK
}

// triples visits the triples of levels from 0 to the greatest one, the first one
// first.
func triples(most int) iter.Seq[[3]int] {
	return func(yield func([3]int) bool) {
		for a := range most + 1 {
			for b := range most + 1 {
				for c := range most + 1 {
					if !yield([3]int{a, b, c}) {
						return
					}
				}
			}
		}
	}
}
