// Package check has what all layers ask of their arguments: the first of
// several errors, and the limits of numbers and of lists.
package check

import (
	"slices"

	"bipole/api"
	"bipole/list"
)

// First returns the first error of a list of results, or OK.
func First(errors ...api.Errno) api.Errno {
	for _, e := range errors {
		if e != api.OK {
			return e
		}
	}
	return api.OK
}

// That returns an error, or OK if something holds.
func That(holds bool, e api.Errno) api.Errno {
	if holds {
		return api.OK
	}
	return e
}

// Each returns the error of the first element that has one, or OK.
func Each[T any](l []T, check func(T) api.Errno) api.Errno {
	for _, x := range l {
		if e := check(x); e != api.OK {
			return e
		}
	}
	return api.OK
}

// List returns ErrMany for a list that is too long, and otherwise the error of
// its first element that has one.
func List[T any](l []T, most int, check func(T) api.Errno) api.Errno {
	if len(l) > most {
		return api.ErrMany
	}
	return Each(l, check)
}

// Successive returns ErrMany for a list that is too long, and otherwise the error
// of its first element that has one, each of them asked together with those
// before it.
func Successive[T any](l []T, most int, check func(before []T, x T) api.Errno) api.Errno {
	if len(l) > most {
		return api.ErrMany
	}
	for i, x := range l {
		if e := check(l[:i], x); e != api.OK {
			return e
		}
	}
	return api.OK
}

// Once returns ErrTwice for an element that has the same key as one before it.
func Once[T any, K comparable](before []T, x T, key func(T) K) api.Errno {
	return That(!slices.Contains(list.Mapped(before, key), key(x)), api.ErrTwice)
}

// Above returns ErrOrder for an element that is not above the one before it.
func Above[T any](before []T, x T, compare func(a, b T) int) api.Errno {
	return That(len(before) == 0 || compare(x, before[len(before)-1]) > 0, api.ErrOrder)
}

// Range returns ErrRange for a number that is not from low to high.
func Range(n, low, high int) api.Errno {
	if n < low || n > high {
		return api.ErrRange
	}
	return api.OK
}

// Index returns ErrUnknown for the index of an element that a list of n elements
// does not have.
func Index(i, n int) api.Errno {
	if i < 0 || i >= n {
		return api.ErrUnknown
	}
	return api.OK
}

// Interval returns the error of an interval whose ends are from low to high:
// ErrRange for the first one that is not, and ErrOrder if they are in a wrong
// order.
func Interval(x api.Interval, low, high int) api.Errno {
	ends := [2]int{x.Low, x.High}
	if e := First(Range(x.Low, low, high), Range(x.High, low, high)); e != api.OK {
		return e
	}
	ascending := ends
	slices.Sort(ascending[:])
	if ends != ascending {
		return api.ErrOrder
	}
	return api.OK
}
