package phasor_test

import (
	"math"
	"slices"
	"strconv"
	"strings"
	"testing"

	"bipole/api"
	"bipole/phasor"
)

// P1.1 to P1.6: the constants that the chapter gives.
func TestConstants(t *testing.T) {
	same(t, "MaxPhase", phasor.MaxPhase, phase)
	same(t, "MaxTurn", phasor.MaxTurn, 1000000)
	same(t, "MaxTelegrams", phasor.MaxTelegrams, 1024)
	same(t, "Size", phasor.Size, 16)
	same(t, "Mark", phasor.Mark, 177)
}

// P1.1
func TestIsName(t *testing.T) {
	for _, x := range []struct {
		s  string
		is bool
	}{
		{"", false}, {"a", true}, {"Z", true}, {"S_1", true}, {"a_", true}, {"A0z9_Z", true},
		{"_", false}, {"_a", false}, {"0", false}, {"9a", false}, {"a b", false}, {" a", false}, {"a ", false},
		{"a-b", false}, {"a.b", false}, {"a\n", false}, {"a\x00", false}, {"é", false}, {"aé", false}, {"a\xff", false}, {"\xff", false}, {"aК", false}, {"a٣", false},
		{strings.Repeat("a", 24), true}, {strings.Repeat("a", 25), false}, {"a" + strings.Repeat("_", 23), true},
		{strings.Repeat("a", 23) + "-", false}, {strings.Repeat("é", 12), false}, {strings.Repeat("a", 1000), false},
	} {
		same(t, strconv.Quote(x.s), phasor.IsName(x.s), x.is)
	}
}

// P1.1
func TestIsNameByBytes(t *testing.T) {
	const letters = "ABCDEFGHIJKLMNOPQRSTUVWXYZabcdefghijklmnopqrstuvwxyz"
	for b := range 256 {
		s := string([]byte{byte(b)})
		same(t, "first byte "+strconv.Itoa(b), phasor.IsName(s), strings.Contains(letters, s))
		same(t, "later byte "+strconv.Itoa(b), phasor.IsName("a"+s), strings.Contains(letters+"0123456789_", s))
		same(t, "last byte "+strconv.Itoa(b), phasor.IsName("a1_"+s), strings.Contains(letters+"0123456789_", s))
	}
}

// P1.1
func TestDraw(t *testing.T) {
	for _, x := range []struct {
		key, n int
		l      []int
	}{
		{1, 0, nil}, {1, 1, []int{0}}, {1, 2, []int{1, 0}}, {1, 6, []int{5, 0, 2, 3, 1, 4}},
		{7, 10, []int{9, 5, 7, 4, 8, 0, 6, 2, 3, 1}},
		{2147483646, 10, []int{2, 5, 6, 8, 0, 9, 3, 4, 7, 1}},
		{123456789, 12, []int{11, 0, 2, 5, 1, 7, 10, 8, 9, 6, 4, 3}},
	} {
		l, e := phasor.Draw(x.key, x.n)
		same(t, "error", e, api.OK)
		sameList(t, "permutation", l, x.l)
	}
}

// P1.1: the definition, for all numbers of elements.
func TestDrawOfAllLengths(t *testing.T) {
	for _, key := range []int{1, 2, 99991, 1 << 30, 2147483645, 2147483646} {
		for n := range 257 {
			want := make([]int, n)
			for i := range want {
				want[i] = i
			}
			x := uint64(key)
			for i := n - 1; i > 0; i-- {
				x = 950706376 * x % 2147483647
				k := int(x % uint64(i+1))
				want[i], want[k] = want[k], want[i]
			}
			got, e := phasor.Draw(key, n)
			same(t, "error", e, api.OK)
			sameList(t, "permutation", got, want)
			slices.Sort(got)
			for i, v := range got {
				same(t, "element in order", v, i)
			}
		}
	}
}

// P1.1
func TestDrawErrors(t *testing.T) {
	for _, x := range [][2]int{{0, 2}, {-1, 2}, {2147483647, 2}, {math.MaxInt, 2}, {math.MinInt, 2}, {1, -1}, {1, 257}, {1, math.MaxInt}, {1, math.MinInt}, {0, -1}} {
		l, e := phasor.Draw(x[0], x[1])
		same(t, "error", e, api.ErrRange)
		sameList(t, "list beside it", l, nil)
	}
}

// P1.1: a result shares no memory with another one.
func TestDrawAnew(t *testing.T) {
	a, _ := phasor.Draw(7, 10)
	clear(a)
	b, _ := phasor.Draw(7, 10)
	sameList(t, "second draw", b, []int{9, 5, 7, 4, 8, 0, 6, 2, 3, 1})
}

// P1.1
func TestCheckRatio(t *testing.T) {
	const most = api.MaxNumber
	for _, x := range []struct {
		num, den int
		e        api.Errno
	}{
		{0, 1, api.OK}, {1, 1, api.OK}, {-1, 1, api.OK}, {1, 2, api.OK}, {-3, 2, api.OK}, {2, 1, api.OK},
		{most, 1, api.OK}, {-most, 1, api.OK}, {1, most, api.OK}, {-1, most, api.OK}, {most - 1, most, api.OK}, {most, most - 1, api.OK},
		{0, 2, api.ErrForm}, {0, most, api.ErrForm}, {2, 2, api.ErrForm}, {2, 4, api.ErrForm}, {-2, 4, api.ErrForm}, {4, 2, api.ErrForm}, {-4, 2, api.ErrForm},
		{15, 35, api.ErrForm}, {-35, 15, api.ErrForm}, {most, most, api.ErrForm}, {-most, most, api.ErrForm}, {most, 3, api.ErrForm},
		{1, 0, api.ErrRange}, {0, 0, api.ErrRange}, {1, -1, api.ErrRange}, {-1, -2, api.ErrRange}, {2, -2, api.ErrRange},
		{most + 1, 1, api.ErrRange}, {-most - 1, 1, api.ErrRange}, {1, most + 1, api.ErrRange}, {0, most + 1, api.ErrRange}, {2, most + 1, api.ErrRange}, {most + 1, 2, api.ErrRange},
		{math.MinInt, 1, api.ErrRange}, {math.MaxInt, 1, api.ErrRange}, {1, math.MinInt, api.ErrRange}, {1, math.MaxInt, api.ErrRange}, {math.MinInt, math.MinInt, api.ErrRange},
	} {
		same(t, strconv.Itoa(x.num)+"/"+strconv.Itoa(x.den), phasor.CheckRatio(api.Ratio{Num: x.num, Den: x.den}), x.e)
	}
}

// sampleCases are floats with their errors as samples.
func sampleCases() map[float32]api.Errno {
	return map[float32]api.Errno{
		0: api.OK, 1: api.OK, -1: api.OK, 0.0625: api.OK, -0.0625: api.OK, 0.9375: api.OK, 1023.9375: api.OK, -1023.9375: api.OK, 1024: api.OK, -1024: api.OK,
		1024.0625: api.ErrRange, -1024.0625: api.ErrRange, 1025: api.ErrRange, -1025: api.ErrRange, 2048: api.ErrRange,
		0.03125: api.ErrRange, -0.03125: api.ErrRange, 0.1: api.ErrRange, 1.03125: api.ErrRange, 1023.96875: api.ErrRange, -1023.96875: api.ErrRange,
		math.Nextafter32(1024, 2000): api.ErrRange, math.Nextafter32(1024, 0): api.ErrRange, math.Nextafter32(1, 2): api.ErrRange,
		math.SmallestNonzeroFloat32: api.ErrRange, -math.SmallestNonzeroFloat32: api.ErrRange, math.MaxFloat32: api.ErrRange, -math.MaxFloat32: api.ErrRange,
		inf: api.ErrForm, -inf: api.ErrForm,
	}
}

// P1.1
func TestCheckSample(t *testing.T) {
	for x, e := range sampleCases() {
		same(t, strconv.FormatFloat(float64(x), 'g', -1, 32), phasor.CheckSample(x), e)
	}
	same(t, "NaN", phasor.CheckSample(nan), api.ErrForm)
	same(t, "-0", phasor.CheckSample(negZero), api.OK)
	for i := -16384; i <= 16384; i++ {
		if e := phasor.CheckSample(float32(i) / 16); e != api.OK {
			t.Fatalf("%d/16: got %v", i, e)
		}
	}
}
