package loop

import (
	"slices"

	"bipole/api"
	"bipole/check"
	"bipole/list"
	"bipole/whole"
)

// Table returns the table of a polynomial.
func Table(p Poly) ([]Row, api.Errno) {
	if e := CheckPoly(p); e != api.OK {
		return nil, e
	}
	return tableOf(p), api.OK
}

// tableOf never goes behind a row of the degree 1: its numbers have up to 61
// bits, and those of another row would have too many.
func tableOf(p Poly) []Row {
	if degree(p) == 0 {
		return nil
	}
	last := Row(slices.Clone(p))
	rows := []Row{last}
	for len(last) > 2 && !fails(last) {
		last = next(last)
		rows = append(rows, last)
	}
	return rows
}

// next returns the row that follows a row.
func next(r Row) Row {
	m := len(r) - 1
	row := slices.Clone(r[1:])
	for i := range row {
		row[i] = r[m]*row[i] - r[0]*r[m-1-i]
	}
	return row
}

// fails reports whether a row proves that a polynomial is not stable.
func fails(r Row) bool {
	return whole.Absolute(r[0]) >= whole.Absolute(r[len(r)-1])
}

// Stable reports whether all roots of a polynomial lie inside of the unit circle.
func Stable(p Poly) (bool, api.Errno) {
	if e := CheckPoly(p); e != api.OK {
		return false, e
	}
	return stable(p), api.OK
}

func stable(p Poly) bool {
	return !slices.ContainsFunc(tableOf(p), fails)
}

// CheckTable returns OK for a table that proves a polynomial to be stable.
func CheckTable(p Poly, table []Row) api.Errno {
	if e := CheckPoly(p); e != api.OK {
		return e
	}
	if !stable(p) || !slices.EqualFunc(table, tableOf(p), slices.Equal[Row]) {
		return api.ErrProof
	}
	return api.OK
}

// Scaled returns the polynomial whose roots are those of another one, times a ratio.
func Scaled(p Poly, by api.Ratio) (Poly, api.Errno) {
	if e := check.First(CheckPoly(p), checkFactor(by)); e != api.OK {
		return nil, e
	}
	return limited(scaled(p, by))
}

// checkFactor returns the error of a ratio by which polynomials are scaled.
func checkFactor(by api.Ratio) api.Errno {
	if e := check.First(check.Range(by.Num, 1, MaxFactor), check.Range(by.Den, 1, MaxFactor)); e != api.OK {
		return e
	}
	if whole.Divisor(by.Num, by.Den) > 1 {
		return api.ErrForm
	}
	return api.OK
}

func scaled(p Poly, by api.Ratio) Poly {
	n := degree(p)
	result := slices.Clone(p)
	divisor := 0
	for k := range result {
		result[k] *= whole.Power(by.Num, n-k) * whole.Power(by.Den, k)
		divisor = whole.Divisor(divisor, result[k])
	}
	return list.Mapped(result, func(a int) int { return a / divisor })
}

// Within reports whether all roots of a polynomial lie inside of a circle around 0.
func Within(p Poly, radius api.Ratio) (bool, api.Errno) {
	// A ratio and its inverse have the same error.
	shrunk, e := Scaled(p, api.Ratio{Num: radius.Den, Den: radius.Num})
	if e != api.OK {
		return false, e
	}
	return stable(shrunk), api.OK
}
