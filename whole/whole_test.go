package whole_test

import (
	"slices"
	"testing"

	"bipole/api"
	"bipole/whole"
)

// is fails a test if a result is not the expected one.
func is(t *testing.T, what string, got, want int) {
	t.Helper()
	if got != want {
		t.Errorf("%s: got %d, want %d", what, got, want)
	}
}

// P1.2, P2.2, P3.2: absolute values and limits.
func TestAbsolute(t *testing.T) {
	for n, want := range map[int]int{0: 0, 1: 1, -1: 1, 1 << 61: 1 << 61, -1 << 61: 1 << 61} {
		is(t, "Absolute", whole.Absolute(n), want)
	}
	for n, want := range map[int]int{0: 0, 4: 4, 5: 5, 6: 5, 1 << 62: 5, -4: -4, -5: -5, -6: -5, -1 << 63: -5} {
		is(t, "Clamped", whole.Clamped(n, 5), want)
	}
}

// P7.1, P7.5
func TestSum(t *testing.T) {
	is(t, "Sum of nothing", whole.Sum(nil), 0)
	is(t, "Sum of one", whole.Sum([]int{-5}), -5)
	is(t, "Sum of many", whole.Sum([]int{1 << 40, -3, 0, 10}), 1<<40+7)
}

// P1.2, P3.4: a remainder is never below 0.
func TestRemainder(t *testing.T) {
	for n, want := range map[int]int{0: 0, 1: 1, 5: 5, 6: 0, 13: 1, -1: 5, -5: 1, -6: 0, -7: 5, -13: 5} {
		is(t, "Remainder", whole.Remainder(n, 6), want)
	}
	is(t, "Remainder of 1", whole.Remainder(-3, 1), 0)
}

// P1.1, P3.2: the divisor is the greatest number that divides both.
func TestDivisor(t *testing.T) {
	is(t, "of 0 and 0", whole.Divisor(0, 0), 0)
	for a := -30; a <= 30; a++ {
		for b := -30; b <= 30; b++ {
			want := 0
			for d := 1; d <= 30; d++ {
				if (a != 0 || b != 0) && a%d == 0 && b%d == 0 {
					want = d
				}
			}
			is(t, "Divisor", whole.Divisor(a, b), want)
		}
	}
}

// P3.2, P3.4
func TestPower(t *testing.T) {
	for _, x := range [][3]int{{0, 0, 1}, {7, 0, 1}, {7, 1, 7}, {-2, 3, -8}, {-2, 4, 16}, {0, 2, 0}, {100, 3, 1000000}} {
		is(t, "Power", whole.Power(x[0], x[1]), x[2])
	}
}

// P4.4, P5.1: a ratio has the value of its integers, in lowest terms.
func TestLowest(t *testing.T) {
	for num := -30; num <= 30; num++ {
		for den := -30; den <= 30; den++ {
			if den == 0 {
				continue
			}
			x := whole.Lowest(num, den)
			is(t, "the value", x.Num*den, num*x.Den)
			is(t, "the common divisor", whole.Divisor(x.Num, x.Den), 1)
			if x.Den < 1 {
				t.Errorf("Lowest(%d, %d): got %v", num, den, x)
			}
		}
	}
	if x := whole.Lowest(-1<<60, 1<<61); x != (api.Ratio{Num: -1, Den: 2}) {
		t.Errorf("a large ratio: got %v", x)
	}
}

// P5.2, P5.3
func TestRoundedUp(t *testing.T) {
	for n := range 100 {
		for by := 1; by <= 30; by++ {
			want := 0
			for want*by < n {
				want++
			}
			is(t, "RoundedUp", whole.RoundedUp(n, by), want)
		}
	}
}

// P6.2, P8.4: also an integer below 0 is rounded down, not towards 0.
func TestRoundedDown(t *testing.T) {
	for n := -100; n < 100; n++ {
		for by := 1; by <= 30; by++ {
			want := -100
			for (want+1)*by <= n {
				want++
			}
			is(t, "RoundedDown", whole.RoundedDown(n, by), want)
		}
	}
}

// P7.3, P8.1: the bits of an integer are those whose sum it is.
func TestBits(t *testing.T) {
	for n := range 1 << 9 {
		var want []int
		sum := 0
		for i := range 12 {
			if power := whole.Power(2, i); n/power%2 == 1 {
				want = append(want, i)
				sum += whole.Bit(i)
			}
			if whole.Has(n, i) != slices.Contains(want, i) {
				t.Errorf("Has of %d and %d: got %v", n, i, whole.Has(n, i))
			}
		}
		is(t, "the sum of the bits", sum, n)
		if got := slices.Collect(whole.Bits(n)); !slices.Equal(got, want) {
			t.Errorf("Bits of %d: got %v, want %v", n, got, want)
		}
	}
	if got := slices.Collect(whole.Bits(1<<40 | 1<<62 | 1)); !slices.Equal(got, []int{0, 40, 62}) {
		t.Errorf("Bits of a large integer: got %v", got)
	}
}

// P8.1: no bit is visited after one that was the last wanted.
func TestFirstBits(t *testing.T) {
	var got []int
	for i := range whole.Bits(0b11101) {
		got = append(got, i)
		if i == 2 {
			break
		}
	}
	if !slices.Equal(got, []int{0, 2}) {
		t.Errorf("Bits up to 2: got %v", got)
	}
}
