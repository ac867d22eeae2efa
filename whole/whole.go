// Package whole has what the layers compute with integers, their bits and their
// ratios.
package whole

import (
	"iter"
	"math/bits"

	"bipole/api"
)

// Absolute returns the absolute value of an integer.
func Absolute(n int) int {
	return max(n, -n)
}

// Sum returns the sum of integers.
func Sum(l []int) int {
	sum := 0
	for _, n := range l {
		sum += n
	}
	return sum
}

// Clamped returns the integer from -most to most that is nearest to n.
func Clamped(n, most int) int {
	return min(max(n, -most), most)
}

// Remainder returns n modulo m, from 0 on also for n below 0.
func Remainder(n, m int) int {
	return (n%m + m) % m
}

// Divisor returns the greatest common divisor of two integers, and 0 if both
// are 0.
func Divisor(a, b int) int {
	for a != 0 {
		a, b = b%a, a
	}
	return Absolute(b)
}

// Power returns n to a power from 0 on.
func Power(n, exponent int) int {
	power := 1
	for range exponent {
		power *= n
	}
	return power
}

// Lowest returns the ratio of two integers, of which the second one is not 0.
func Lowest(num, den int) api.Ratio {
	divisor := Divisor(num, den)
	if den < 0 {
		divisor = -divisor
	}
	return api.Ratio{Num: num / divisor, Den: den / divisor}
}

// RoundedUp returns the least integer that is not below n / by, for n from 0 on
// and by above 0.
func RoundedUp(n, by int) int {
	return (n + by - 1) / by
}

// RoundedDown returns the greatest integer that is not above n / by, for by above
// 0.
func RoundedDown(n, by int) int {
	return (n - Remainder(n, by)) / by
}

// Bit returns the integer that has one bit alone, whose index is from 0 on.
func Bit(i int) int {
	return 1 << i
}

// Has reports whether an integer has the bit with an index.
func Has(n, i int) bool {
	return n&Bit(i) != 0
}

// Bits visits the indices of the bits that an integer from 0 on has, ascending.
func Bits(n int) iter.Seq[int] {
	return func(yield func(int) bool) {
		for rest := n; rest != 0; rest &= rest - 1 {
			if !yield(bits.TrailingZeros(uint(rest))) {
				return
			}
		}
	}
}
