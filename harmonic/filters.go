package harmonic

import (
	"slices"

	"bipole/api"
	"bipole/check"
	"bipole/whole"
)

// CheckFilter returns the first error of a filter, or OK.
func CheckFilter(f Filter) api.Errno {
	if len(f.Branches) == 0 {
		return api.ErrEmpty
	}
	return check.List(f.Branches, MaxBranches, checkBranch)
}

func checkBranch(b Branch) api.Errno {
	if e := check.First(check.Range(b.L, 0, MaxL), check.Range(b.C, 0, MaxC)); e != api.OK {
		return e
	}
	if b == (Branch{}) {
		return api.ErrZero
	}
	return api.OK
}

func checkOrder(h int) api.Errno {
	return check.Range(h, 1, MaxOrder)
}

// detuned returns how far a branch is from being tuned to an order: 0 if it is.
func (b Branch) detuned(h int) int {
	return b.C - h*h*b.L
}

func isTuned(f Filter, h int) bool {
	return slices.ContainsFunc(f.Branches, func(b Branch) bool { return b.detuned(h) == 0 })
}

// Susceptance returns the susceptance of a filter at an order.
func Susceptance(f Filter, h int) (api.Ratio, api.Errno) {
	if e := check.First(CheckFilter(f), checkOrder(h)); e != api.OK {
		return api.Ratio{}, e
	}
	if isTuned(f, h) {
		return api.Ratio{}, api.ErrSingular
	}
	return susceptance(f, h), api.OK
}

// susceptance returns the susceptance at an order to which a filter is not
// tuned.
func susceptance(f Filter, h int) api.Ratio {
	num, den := 0, 1
	for _, b := range f.Branches {
		d := b.detuned(h)
		num, den = num*d+h*den, den*d
	}
	return whole.Lowest(num, den)
}

// Resonances returns the resonances of a filter.
func Resonances(f Filter) ([]int, api.Errno) {
	if e := CheckFilter(f); e != api.OK {
		return nil, e
	}
	return ordersWhere(1, MaxOrder-1, func(h int) bool { return isResonance(f, h) }), api.OK
}

func isResonance(f Filter, h int) bool {
	if isTuned(f, h) || isTuned(f, h+1) {
		return false
	}
	here, next := susceptance(f, h).Num, susceptance(f, h+1).Num
	return here == 0 || here < 0 && next > 0 || here > 0 && next < 0
}

// Tapped returns a filter that is tapped at a branch.
func Tapped(f Filter, branch, tap int) (Filter, api.Errno) {
	if e := check.First(CheckFilter(f), check.Index(branch, len(f.Branches)), check.Range(tap, -MaxTap, MaxTap)); e != api.OK {
		return Filter{}, e
	}
	return tapped(f, branch, tap)
}

// tapped returns a filter that is tapped at a branch, or ErrLarge if this is
// none.
func tapped(f Filter, branch, tap int) (Filter, api.Errno) {
	result := Filter{Branches: slices.Clone(f.Branches)}
	result.Branches[branch].L += tap
	if CheckFilter(result) != api.OK {
		return Filter{}, api.ErrLarge
	}
	return result, api.OK
}
