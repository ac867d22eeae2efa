package harmonic

import (
	"iter"

	"bipole/api"
	"bipole/check"
	"bipole/list"
	"bipole/whole"
)

// The orders whose elimination is asked for.
const (
	firstOrder = 1
	lastOrder  = 6
)

// checkPattern returns the error of a pattern, or OK.
func checkPattern(p [Steps]int) api.Errno {
	return check.Each(p[:], checkLevel)
}

func checkLevel(level int) api.Errno {
	return check.Range(level, -MaxLevel, MaxLevel)
}

// steps visits so many steps of a pattern, which goes on period after period:
// the levels from the step first on, with their indices from 0 on.
func steps(p [Steps]int, first, count int) iter.Seq2[int, int] {
	return func(yield func(int, int) bool) {
		for i := range count {
			if !yield(i, p[whole.Remainder(first+i, Steps)]) {
				return
			}
		}
	}
}

// ordersWhere returns the orders from first to last for which a condition holds.
func ordersWhere(first, last int, holds func(h int) bool) []int {
	var orders []int
	for i := range last - first + 1 {
		if h := first + i; holds(h) {
			orders = append(orders, h)
		}
	}
	return orders
}

// Spectrum returns the spectrum of a pattern.
func Spectrum(p [12]int) ([12]Cyclo, api.Errno) {
	if e := checkPattern(p); e != api.OK {
		return [Steps]Cyclo{}, e
	}
	return spectrum(p), api.OK
}

func spectrum(p [Steps]int) [Steps]Cyclo {
	numbers := list.Mapped(p[:], func(level int) Cyclo { return Cyclo{Re: api.Eisen{A: level}} })
	return [Steps]Cyclo(list.Transformed(numbers, turnedBack, sum))
}

func turnedBack(x Cyclo, n int) Cyclo {
	return turned(x, -n)
}

// Back returns the pattern with a spectrum.
func Back(s [12]Cyclo) ([12]int, api.Errno) {
	if e := check.Each(s[:], checkNumber); e != api.OK {
		return [Steps]int{}, e
	}
	summed := list.Transformed(s[:], turned, sum)
	p := [Steps]int(list.Mapped(summed, func(x Cyclo) int { return x.Re.A / Steps }))
	// Where a division left a rest, or a number was no integer, the pattern has
	// another spectrum.
	if checkPattern(p) != api.OK || spectrum(p) != s {
		return [Steps]int{}, api.ErrForm
	}
	return p, api.OK
}

// Quarters returns the quarters of a pattern.
func Quarters(p [12]int) ([4]complex128, api.Errno) {
	s, e := Spectrum(p)
	if e != api.OK {
		return [4]complex128{}, e
	}
	var quarters [4]complex128
	for k := range quarters {
		x := s[k*Steps/len(quarters)]
		quarters[k] = complex(float64(x.Re.A), float64(x.Im.A))
	}
	return quarters, api.OK
}

// Eliminated returns the eliminated orders of a pattern.
func Eliminated(p [12]int) ([]int, api.Errno) {
	s, e := Spectrum(p)
	if e != api.OK {
		return nil, e
	}
	return ordersWhere(firstOrder, lastOrder, func(h int) bool { return s[h] == Cyclo{} }), api.OK
}

// Delayed returns the delayed pattern.
func Delayed(p [12]int, n int) ([12]int, api.Errno) {
	if e := check.First(checkPattern(p), checkTurn(n)); e != api.OK {
		return [Steps]int{}, e
	}
	var delayed [Steps]int
	for k, level := range steps(p, -n, Steps) {
		delayed[k] = level
	}
	return delayed, api.OK
}
