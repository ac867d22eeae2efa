package cable_test

import (
	"fmt"
	"math/big"
	"math/rand"
	"slices"
	"testing"

	"bipole/api"
	"bipole/cable"
)

// P6.2
func TestArrivals(t *testing.T) {
	more := append(heard(), cable.Arrival{Tick: 111, End: "B", Height: 10 * unit}, cable.Arrival{Tick: 115, End: "A", Height: unit / 2})
	for window, n := range map[int]int{0: 0, 1: 1, 6: 1, 7: 2, 8: 2, 9: 4, 10: 4, 11: 5, 14: 5, 15: 6} {
		l, e := cable.Arrivals(shown(), fault, window)
		isList(t, fmt.Sprint(window), l, more[:n])
		is(t, fmt.Sprint(window), e, api.OK)
	}
}

// P6.2: steps at the same tick and end are one arrival, also if they add up to 0.
func TestArrivalsOfNothing(t *testing.T) {
	c := cable.Cable{Sections: sections([2]int{1, 4}, [2]int{1, 4}), Joints: []int{2}, Ends: [2]int{4, 4}}
	l, e := cable.Arrivals(c, cable.Fault{Offset: 1, Height: 64}, 16)
	is(t, "both waves meet", e, api.OK)
	isList(t, "both waves meet", l, []cable.Arrival{
		{Tick: 1, End: "A", Height: 64 * unit}, {Tick: 7, End: "A", Height: 16 * unit}, {Tick: 7, End: "B", Height: 80 * unit}, {Tick: 9, End: "A", Height: 8 * unit}, {Tick: 9, End: "B", Height: 40 * unit},
		{Tick: 15, End: "A", Height: (30 + 2) * unit}, {Tick: 15, End: "B", Height: (10 - 10) * unit},
	})
}

// arrivalsOf returns the arrivals of steps, by the definition.
func arrivalsOf(c cable.Cable, steps []cable.Step) []cable.Arrival {
	var l []cable.Arrival
	for _, s := range steps {
		for i, boundary := range []int{0, len(c.Sections)} {
			a := cable.Arrival{Tick: s.Tick, End: bothEnds[i]}
			if s.Boundary != boundary || slices.ContainsFunc(l, func(b cable.Arrival) bool { return b.Tick == a.Tick && b.End == a.End }) {
				continue
			}
			for _, other := range steps {
				if other.Tick == s.Tick && other.Boundary == boundary {
					a.Height += other.Height
				}
			}
			l = append(l, a)
		}
	}
	return l
}

// P6.2: arrivals are those of the definition.
func TestArrivalsOfMany(t *testing.T) {
	r := rand.New(rand.NewSource(622))
	none := 0
	for range 2000 {
		c := randomCable(r)
		f, window := randomFault(r, c), r.Intn([]int{20, 100, 1001}[r.Intn(3)])
		what := fmt.Sprint(f, " of ", c, " in ", window)
		l, e := cable.Arrivals(c, f, window)
		isList(t, what, l, arrivalsOf(c, stepsOf(c, f, window)))
		is(t, what, e, api.OK)
		if slices.ContainsFunc(l, func(a cable.Arrival) bool { return a.Height == 0 }) {
			none++
		}
	}
	if none < 20 {
		t.Errorf("only %d faults have an arrival of the height 0", none)
	}
}

// noFirst fails a test if there is a first arrival, or another error.
func noFirst(t *testing.T, what string, l []cable.Arrival, end string, want api.Errno) {
	t.Helper()
	a, e := cable.First(l, end)
	is(t, what, a, cable.Arrival{})
	is(t, what, e, want)
}

// P6.2
func TestFirst(t *testing.T) {
	eachBadArrivals(func(what string, l []cable.Arrival, e api.Errno) {
		noFirst(t, what, l, "A", e)
		noFirst(t, what, l, "C", e)
	})
	for _, end := range badEnds {
		noFirst(t, end, heard(), end, api.ErrKind)
		noFirst(t, end, nil, end, api.ErrKind)
	}
	for _, end := range bothEnds {
		noFirst(t, "of nothing", nil, end, api.ErrNone)
	}
	noFirst(t, "at A", at(5, "B", at(6, "B")...), "A", api.ErrNone)
	noFirst(t, "at B", at(5, "A"), "B", api.ErrNone)
	widest := []cable.Arrival{{Tick: 0, End: "B", Height: -1 << 44}, {Tick: 999999999, End: "A", Height: 1 << 44}, {Tick: 999999999, End: "B"}}
	for _, x := range []struct {
		l    []cable.Arrival
		end  string
		want cable.Arrival
	}{
		{heard(), "A", heard()[0]}, {heard(), "B", heard()[3]}, {widest, "A", widest[1]}, {widest, "B", widest[0]}, {manyArrivals(2048), "A", cable.Arrival{Tick: 0, End: "A"}}, {manyArrivals(2048), "B", cable.Arrival{Tick: 0, End: "B", Height: 1}},
		{[]cable.Arrival{{Tick: 4, End: "A"}, {Tick: 4, End: "B"}, {Tick: 5, End: "A", Height: 7}}, "A", cable.Arrival{Tick: 4, End: "A"}},
	} {
		a, e := cable.First(x.l, x.end)
		is(t, fmt.Sprint(x.l, " at ", x.end), a, x.want)
		is(t, fmt.Sprint(x.l, " at ", x.end), e, api.OK)
	}
}

// noRecord fails a test if there is a record, or another error.
func noRecord(t *testing.T, what string, c cable.Cable, f cable.Fault, end string, window int, want api.Errno) {
	t.Helper()
	l, e := cable.Record(c, f, end, window)
	isList(t, what, l, nil)
	is(t, what, e, want)
}

// isRecord fails a test if a record is not the expected one.
func isRecord(t *testing.T, c cable.Cable, f cable.Fault, end string, window int, want []float32) {
	t.Helper()
	what := fmt.Sprint(f, " of ", c, " at ", end, " in ", window)
	l, e := cable.Record(c, f, end, window)
	isList(t, what, l, want)
	is(t, what, e, api.OK)
}

// P6.2: a fault is asked for before an end, and this before a window.
func TestNoRecord(t *testing.T) {
	eachBadFault(func(what string, c cable.Cable, f cable.Fault, e api.Errno) {
		noRecord(t, what, c, f, "A", 5, e)
		noRecord(t, what, c, f, "C", -1, e)
	})
	for _, end := range badEnds {
		noRecord(t, end, shown(), fault, end, 5, api.ErrKind)
		noRecord(t, end, shown(), fault, end, -1, api.ErrKind)
	}
	for _, n := range beyond(0, 1000) {
		noRecord(t, fmt.Sprint("the window ", n), shown(), fault, "B", n, api.ErrRange)
	}
}

// P6.2
func TestRecord(t *testing.T) {
	isRecord(t, shown(), fault, "A", 8, []float32{0, 16, 16, 16, 16, 16, 16, 20, 20})
	isRecord(t, shown(), fault, "A", 9, []float32{0, 16, 16, 16, 16, 16, 16, 20, 20, 22})
	isRecord(t, shown(), fault, "B", 8, make([]float32, 9))
	isRecord(t, shown(), fault, "B", 9, []float32{9: 20})
	isRecord(t, shown(), fault, "A", 0, []float32{0})
	half := single(5, 2, 4, 4)
	isRecord(t, half, cable.Fault{Offset: 1, Tick: 100000, Height: 1}, "A", 14, []float32{0, 1, 1, 1.5, 1.5, 1.75, 1.75, 1.875, 1.875, 1.9375, 1.9375, 2, 2, 2, 2})
	isRecord(t, half, cable.Fault{Offset: 1, Tick: 100000, Height: -1}, "A", 14, []float32{0, -1, -1, -1.5, -1.5, -1.75, -1.75, -1.875, -1.875, -1.9375, -1.9375, -1.9375, -1.9375, -2, -2})
	l, e := cable.Record(longest(0), cable.Fault{Section: 3, Offset: 63, Height: -7}, "B", 1000)
	is(t, "the longest record", e, api.OK)
	isList(t, "the longest record", l, append(make([]float32, 129), slices.Repeat([]float32{-7}, 872)...))
}

// P6.2: a number is rounded before it is asked whether it is a sample.
func TestRecordOfLargeNumbers(t *testing.T) {
	one := single(5, 4, 8, 8)
	f := cable.Fault{Offset: 1, Height: 1024}
	isRecord(t, one, f, "A", 6, []float32{0, 1024, 1024, 1024, 1024, 1024, 1024})
	noRecord(t, "twice 1024", one, f, "A", 7, api.ErrLarge)
	noRecord(t, "twice 1024, and then nothing", single(5, 4, 0, 8), f, "A", 1000, api.ErrLarge)
	f.Height = -1024
	isRecord(t, one, f, "A", 6, []float32{0, -1024, -1024, -1024, -1024, -1024, -1024})
	noRecord(t, "twice -1024", one, f, "A", 7, api.ErrLarge)
	isRecord(t, single(5, 4, 0, -8), f, "A", 7, []float32{0, -1024, -1024, -1024, -1024, -1024, -1024, 0})

	near := single(1, 2, 4, 5)
	f.Height = 441
	isRecord(t, near, f, "A", 13, recordOf(near, f, "A", 13))
	middle := cable.Cable{Sections: sections([2]int{1, 2}, [2]int{1, 2}), Joints: []int{-5}, Ends: [2]int{8, 5}}
	f.Height = 792
	noRecord(t, "rounded to more than 1024", middle, f, "A", 1000, api.ErrLarge)
	f.Height = -792
	isRecord(t, middle, f, "A", 40, recordOf(middle, f, "A", 40))
}

// sumOf returns the sum at an end up to a tick, by the definition.
func sumOf(l []cable.Arrival, end string, tick int) int {
	sum := 0
	for _, a := range l {
		if a.End == end && a.Tick <= tick {
			sum += a.Height
		}
	}
	return sum
}

// recordOf returns the record of an end, by the definition, also if it has large
// numbers.
func recordOf(c cable.Cable, f cable.Fault, end string, window int) []float32 {
	arrivals := arrivalsOf(c, stepsOf(c, f, window))
	var l []float32
	for tick := f.Tick; tick <= f.Tick+window; tick++ {
		x := big.NewRat(int64(sumOf(arrivals, end, tick)), unit/16)
		x.Add(x, big.NewRat(1, 2))
		sixteenths := new(big.Int).Div(x.Num(), x.Denom())
		l = append(l, float32(sixteenths.Int64())/16)
	}
	return l
}

// P6.2: records are those of the definition.
func TestRecordsOfMany(t *testing.T) {
	r := rand.New(rand.NewSource(623))
	seen := map[api.Errno]int{}
	for range 2000 {
		c := randomCable(r)
		f, window, end := randomFault(r, c), r.Intn([]int{20, 100, 1001}[r.Intn(3)]), bothEnds[r.Intn(2)]
		what := fmt.Sprint(f, " of ", c, " at ", end, " in ", window)
		want, wanted := recordOf(c, f, end, window), api.OK
		if slices.Max(want) > 1024 || slices.Min(want) < -1024 {
			want, wanted = nil, api.ErrLarge
		}
		l, e := cable.Record(c, f, end, window)
		isList(t, what, l, want)
		is(t, what, e, wanted)
		seen[e]++
	}
	if len(seen) != 2 || seen[api.ErrLarge] < 20 || seen[api.OK] < 1000 {
		t.Errorf("the errors are %v", seen)
	}
}
