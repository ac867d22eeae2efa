package phasor

import "bipole/api"

// first returns the first error of a list of results, or OK.
func first(errors ...api.Errno) api.Errno {
	for _, e := range errors {
		if e != api.OK {
			return e
		}
	}
	return api.OK
}

// firstIn returns the error of the first element that has one, or OK.
func firstIn[T any](l []T, check func(T) api.Errno) api.Errno {
	for _, x := range l {
		if e := check(x); e != api.OK {
			return e
		}
	}
	return api.OK
}

// checkLimited returns ErrMany for a list that is too long, and otherwise the
// error of its first element that has one.
func checkLimited[T any](l []T, most int, check func(T) api.Errno) api.Errno {
	if len(l) > most {
		return api.ErrMany
	}
	return firstIn(l, check)
}

// checkRange returns ErrRange for a number that is not from low to high.
func checkRange(n, low, high int) api.Errno {
	if n < low || n > high {
		return api.ErrRange
	}
	return api.OK
}
