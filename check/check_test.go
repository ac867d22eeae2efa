package check_test

import (
	"cmp"
	"math"
	"testing"

	"bipole/api"
	"bipole/check"
)

// P1, P2: the first error decides.
func TestFirst(t *testing.T) {
	for _, x := range []struct {
		l    []api.Errno
		want api.Errno
	}{
		{nil, api.OK},
		{[]api.Errno{api.OK, api.OK}, api.OK},
		{[]api.Errno{api.OK, api.ErrRange, api.ErrForm}, api.ErrRange},
		{[]api.Errno{api.ErrName}, api.ErrName},
	} {
		if e := check.First(x.l...); e != x.want {
			t.Errorf("First of %v: got %v, want %v", x.l, e, x.want)
		}
	}
}

// P7.4, P8.1: an error is that of what does not hold.
func TestThat(t *testing.T) {
	for _, x := range []struct {
		holds   bool
		e, want api.Errno
	}{
		{true, api.ErrName, api.OK}, {false, api.ErrName, api.ErrName}, {false, api.ErrOrder, api.ErrOrder}, {true, api.OK, api.OK}, {false, api.OK, api.OK},
	} {
		if e := check.That(x.holds, x.e); e != x.want {
			t.Errorf("%v of what holds (%v): got %v, want %v", x.e, x.holds, e, x.want)
		}
	}
}

// P7.1, P7.4, P8.1: an element has another key than all before it.
func TestOnce(t *testing.T) {
	length := func(s string) int { return len(s) }
	for _, x := range []struct {
		before []string
		s      string
		want   api.Errno
	}{
		{nil, "", api.OK}, {[]string{"a", "bcd"}, "ef", api.OK}, {[]string{"a", "bcd"}, "e", api.ErrTwice}, {[]string{"a", "bcd"}, "efg", api.ErrTwice}, {[]string{"a", "bcd"}, "", api.OK},
	} {
		if e := check.Once(x.before, x.s, length); e != x.want {
			t.Errorf("Once of %q behind %q: got %v, want %v", x.s, x.before, e, x.want)
		}
	}
}

// P1, P2: the first element with an error decides, behind the length of the list.
func TestLists(t *testing.T) {
	parity := func(n int) api.Errno {
		return [3]api.Errno{api.OK, api.ErrForm, api.ErrZero}[n]
	}
	for _, x := range []struct {
		l          []int
		each, list api.Errno
	}{
		{nil, api.OK, api.OK},
		{[]int{0, 0, 0}, api.OK, api.OK},
		{[]int{0, 2, 1}, api.ErrZero, api.ErrZero},
		{[]int{1, 2, 0}, api.ErrForm, api.ErrForm},
		{[]int{0, 0, 0, 0}, api.OK, api.ErrMany},
		{[]int{1, 0, 0, 0}, api.ErrForm, api.ErrMany},
	} {
		if e := check.Each(x.l, parity); e != x.each {
			t.Errorf("Each of %v: got %v, want %v", x.l, e, x.each)
		}
		if e := check.List(x.l, 3, parity); e != x.list {
			t.Errorf("List of %v: got %v, want %v", x.l, e, x.list)
		}
	}
}

// P7.1, P7.4: each element is asked together with those before it, behind the length
// of the list.
func TestSuccessive(t *testing.T) {
	ascending := func(before []int, n int) api.Errno {
		for _, b := range before {
			if b >= n {
				return api.ErrOrder
			}
		}
		return check.Range(n, 0, 9)
	}
	for _, x := range []struct {
		l    []int
		want api.Errno
	}{
		{nil, api.OK}, {[]int{5}, api.OK}, {[]int{0, 4, 9}, api.OK}, {[]int{0, 4, 4}, api.ErrOrder}, {[]int{5, 9, 5}, api.ErrOrder}, {[]int{10}, api.ErrRange}, {[]int{5, 10, 5}, api.ErrRange}, {[]int{5, 5, 10}, api.ErrOrder}, {[]int{0, 1, 2, 3}, api.ErrMany}, {[]int{10, 0, 0, 0}, api.ErrMany},
	} {
		if e := check.Successive(x.l, 3, ascending); e != x.want {
			t.Errorf("Successive of %v: got %v, want %v", x.l, e, x.want)
		}
	}
}

// P1, P2: both ends are in the range.
func TestRange(t *testing.T) {
	for n, want := range map[int]api.Errno{-2: api.OK, 0: api.OK, 3: api.OK, -3: api.ErrRange, 4: api.ErrRange, math.MinInt: api.ErrRange, math.MaxInt: api.ErrRange} {
		if e := check.Range(n, -2, 3); e != want {
			t.Errorf("Range of %d: got %v, want %v", n, e, want)
		}
	}
}

// P3.4, P4.4, P4.5, P5.3, P6.1, P7.4: elements are numbered from 0 on.
func TestIndex(t *testing.T) {
	for i, want := range map[int]api.Errno{0: api.OK, 2: api.OK, -1: api.ErrUnknown, 3: api.ErrUnknown, math.MinInt: api.ErrUnknown, math.MaxInt: api.ErrUnknown} {
		if e := check.Index(i, 3); e != want {
			t.Errorf("Index of %d: got %v, want %v", i, e, want)
		}
		if e := check.Index(i, 0); e != api.ErrUnknown {
			t.Errorf("Index of %d in nothing: got %v", i, e)
		}
	}
}

// P2.2, P4.6, P8.2: an element is held against the one before it alone.
func TestAbove(t *testing.T) {
	for _, x := range []struct {
		before []int
		n      int
		want   api.Errno
	}{
		{nil, math.MinInt, api.OK}, {[]int{}, 5, api.OK}, {[]int{4}, 5, api.OK}, {[]int{5}, 5, api.ErrOrder}, {[]int{6}, 5, api.ErrOrder}, {[]int{9, 4}, 5, api.OK}, {[]int{1, 2, 6}, 5, api.ErrOrder}, {[]int{math.MinInt}, math.MaxInt, api.OK}, {[]int{math.MaxInt}, math.MinInt, api.ErrOrder},
	} {
		if e := check.Above(x.before, x.n, cmp.Compare); e != x.want {
			t.Errorf("Above of %v and %d: got %v, want %v", x.before, x.n, e, x.want)
		}
		backwards := func(a, b int) int { return cmp.Compare(b, a) }
		if e := check.Above(x.before, x.n, backwards); len(x.before) > 0 && x.before[len(x.before)-1] != x.n && e == x.want {
			t.Errorf("Above backwards of %v and %d: got %v", x.before, x.n, e)
		}
	}
}

// P2.1, P3.3: both ends are asked for before their order.
func TestInterval(t *testing.T) {
	for _, x := range []struct {
		low, high int
		want      api.Errno
	}{
		{-2, 3, api.OK}, {3, 3, api.OK}, {-2, -2, api.OK}, {0, 1, api.OK},
		{1, 0, api.ErrOrder}, {3, -2, api.ErrOrder},
		{-3, 0, api.ErrRange}, {0, 4, api.ErrRange}, {4, 0, api.ErrRange}, {0, -3, api.ErrRange}, {math.MinInt, 0, api.ErrRange}, {0, math.MaxInt, api.ErrRange}, {math.MaxInt, math.MinInt, api.ErrRange},
	} {
		if e := check.Interval(api.Interval{Low: x.low, High: x.high}, -2, 3); e != x.want {
			t.Errorf("Interval from %d to %d: got %v, want %v", x.low, x.high, e, x.want)
		}
	}
}
