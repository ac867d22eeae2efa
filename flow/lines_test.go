package flow_test

import (
	"fmt"
	"math/big"
	"math/rand"
	"testing"

	"bipole/api"
	"bipole/flow"
)

// badLine is points that are no line.
type badLine struct {
	l flow.Line
	e api.Errno
}

// badLines returns lines with each error, most of them with later errors, too.
func badLines() []badLine {
	l := []badLine{
		{nil, api.ErrShort}, {flow.Line{}, api.ErrShort}, {line([2]int{0, 0}), api.ErrShort}, {line([2]int{-1, 1001}), api.ErrShort},
		{make(flow.Line, 9), api.ErrMany}, {make(flow.Line, 300), api.ErrMany}, {append(longest(), flow.Point{Voltage: 800, Power: -400}), api.ErrMany}, {append(line([2]int{-1, 0}), longest()...), api.ErrMany},
		{line([2]int{0, 0}, [2]int{1, 0}), api.ErrOrder}, {line([2]int{0, 0}, [2]int{0, -1}), api.ErrOrder}, {line([2]int{0, 0}, [2]int{1, 1}), api.ErrOrder}, {line([2]int{5, 0}, [2]int{4, -1}), api.ErrOrder}, {line([2]int{5, 0}, [2]int{4, 1}), api.ErrOrder}, {line([2]int{5, 0}, [2]int{5, 0}), api.ErrOrder},
		{line([2]int{0, 9}, [2]int{5, 8}, [2]int{6, 8}), api.ErrOrder}, {line([2]int{0, 9}, [2]int{5, 8}, [2]int{5, 7}), api.ErrOrder}, {line([2]int{0, 9}, [2]int{5, 8}, [2]int{4, 7}), api.ErrOrder}, {line([2]int{0, 9}, [2]int{5, 8}, [2]int{6, 9}), api.ErrOrder},
		{line([2]int{0, 9}, [2]int{0, 8}, [2]int{1001, 7}), api.ErrOrder}, {line([2]int{0, 9}, [2]int{1, 9}, [2]int{2, -1001}), api.ErrOrder}, {make(flow.Line, 8), api.ErrOrder},
	}
	for _, n := range beyond(0, 1000) {
		l = append(l, badLine{line([2]int{n, 0}, [2]int{1000, -1}), api.ErrRange}, badLine{line([2]int{0, 1}, [2]int{n, 0}), api.ErrRange}, badLine{line([2]int{0, 1}, [2]int{n, 2}), api.ErrRange}, badLine{line([2]int{n, 0}, [2]int{n, 0}), api.ErrRange}, badLine{line([2]int{0, 5}, [2]int{4, 4}, [2]int{n, 3}), api.ErrRange})
	}
	for _, n := range beyond(-1000, 1000) {
		l = append(l, badLine{line([2]int{0, n}, [2]int{1, -1000}), api.ErrRange}, badLine{line([2]int{0, 1000}, [2]int{1, n}), api.ErrRange}, badLine{line([2]int{3, 0}, [2]int{3, n}), api.ErrRange}, badLine{line([2]int{3, n}, [2]int{3, n}), api.ErrRange}, badLine{line([2]int{0, 5}, [2]int{4, 4}, [2]int{5, n}), api.ErrRange})
	}
	return l
}

// P5.1: each function asks for the line before all else.
func TestBadLines(t *testing.T) {
	for _, x := range badLines() {
		what := fmt.Sprint(x.l)
		is(t, what, flow.CheckLine(x.l), x.e)
		for _, voltage := range []int{-1, 0, 5} {
			power, e := flow.At(x.l, voltage)
			is(t, what, power, api.Ratio{})
			is(t, what, e, x.e)
		}
		for _, by := range []int{0, 1500, 2001} {
			moved, e := flow.Moved(x.l, by)
			isList(t, what, moved, nil)
			is(t, what, e, x.e)
		}
		for _, l := range [][]flow.Line{{x.l}, {x.l, nil}, {first(), x.l}, {first(), line([2]int{101, 1}, [2]int{102, 0}), x.l}, {first(), second(), x.l}} {
			notLines(t, l, x.e)
		}
	}
	for _, l := range []flow.Line{
		first(), second(), longest(), line([2]int{0, 1000}, [2]int{1000, -1000}), line([2]int{0, 1}, [2]int{1, 0}), line([2]int{999, -999}, [2]int{1000, -1000}), line([2]int{0, 1000}, [2]int{1, 999}, [2]int{2, 998}),
	} {
		is(t, fmt.Sprint(l), flow.CheckLine(l), api.OK)
		is(t, fmt.Sprint(l), flow.CheckLines([]flow.Line{l}), api.OK)
	}
}

// notLines fails a test if lines do not have an error, whatever the load is.
func notLines(t *testing.T, l []flow.Line, want api.Errno) {
	t.Helper()
	what := fmt.Sprint(l)
	is(t, what, flow.CheckLines(l), want)
	for _, load := range []int{0, 3000, 3001, -3001} {
		voltage, e := flow.Crossing(l, load)
		is(t, what, voltage, api.Ratio{})
		is(t, what, e, want)
		shares, e := flow.Shares(l, load)
		isList(t, what, shares, nil)
		is(t, what, e, want)
	}
}

// P5.1
func TestBadLinesOfStations(t *testing.T) {
	notLines(t, nil, api.ErrEmpty)
	notLines(t, []flow.Line{}, api.ErrEmpty)
	notLines(t, []flow.Line{first(), first(), first(), first()}, api.ErrMany)
	notLines(t, make([]flow.Line, 4), api.ErrMany)
	notLines(t, make([]flow.Line, 3), api.ErrShort)
	notLines(t, []flow.Line{first(), make(flow.Line, 9), nil}, api.ErrMany)
	apart := line([2]int{101, 5}, [2]int{200, 0})
	notLines(t, []flow.Line{first(), apart}, api.ErrNone)
	notLines(t, []flow.Line{apart, first()}, api.ErrNone)
	notLines(t, []flow.Line{first(), line([2]int{50, 5}, [2]int{150, 0}), apart}, api.ErrNone)
	notLines(t, []flow.Line{first(), line([2]int{0, 5}, [2]int{150, 0}), apart}, api.ErrNone)
	notLines(t, []flow.Line{line([2]int{0, 5}, [2]int{1, 0}), line([2]int{999, 5}, [2]int{1000, 0})}, api.ErrNone)
	touching := line([2]int{100, 5}, [2]int{200, 0})
	is(t, "one common voltage", flow.CheckLines([]flow.Line{first(), touching, second()}), api.OK)
	is(t, "one common voltage", flow.CheckLines([]flow.Line{touching, first()}), api.OK)
}

// P5.1
func TestAt(t *testing.T) {
	steps := line([2]int{10, 100}, [2]int{13, 90}, [2]int{20, -5}, [2]int{21, -1000})
	for _, x := range []struct {
		l       flow.Line
		voltage int
		power   api.Ratio
	}{
		{first(), 0, ratio(100, 1)}, {first(), 25, ratio(75, 1)}, {first(), 99, ratio(1, 1)}, {first(), 100, ratio(0, 1)},
		{second(), 50, ratio(0, 1)}, {second(), 51, ratio(-1, 1)}, {second(), 100, ratio(-50, 1)},
		{steps, 10, ratio(100, 1)}, {steps, 11, ratio(290, 3)}, {steps, 12, ratio(280, 3)}, {steps, 13, ratio(90, 1)}, {steps, 14, ratio(535, 7)}, {steps, 19, ratio(60, 7)}, {steps, 20, ratio(-5, 1)}, {steps, 21, ratio(-1000, 1)},
		{line([2]int{0, 1}, [2]int{3, 0}), 1, ratio(2, 3)}, {line([2]int{0, 0}, [2]int{4, -2}), 1, ratio(-1, 2)}, {line([2]int{0, 0}, [2]int{4, -2}), 2, ratio(-1, 1)}, {line([2]int{0, 1000}, [2]int{1000, 999}), 999, ratio(999001, 1000)},
	} {
		power, e := flow.At(x.l, x.voltage)
		is(t, fmt.Sprint(x.l, " at ", x.voltage), power, x.power)
		is(t, fmt.Sprint(x.l, " at ", x.voltage), e, api.OK)
	}
	for _, voltage := range append(beyond(10, 21), 0, 1000) {
		power, e := flow.At(steps, voltage)
		is(t, fmt.Sprint("at ", voltage), power, api.Ratio{})
		is(t, fmt.Sprint("at ", voltage), e, api.ErrSpan)
	}
}

// P5.1: powers are those of the definition.
func TestAtOfMany(t *testing.T) {
	r := rand.New(rand.NewSource(511))
	for range 2000 {
		l := randomLine(r)
		voltage := between(r, l[0].Voltage, l[len(l)-1].Voltage)
		power, e := flow.At(l, voltage)
		is(t, fmt.Sprint(l, " at ", voltage), power, lowest(powerAt(l, big.NewRat(int64(voltage), 1))))
		is(t, fmt.Sprint(l, " at ", voltage), e, api.OK)
	}
}

// P5.1
func TestMoved(t *testing.T) {
	for _, x := range []struct {
		l    flow.Line
		by   int
		want flow.Line
		e    api.Errno
	}{
		{first(), 10, line([2]int{0, 110}, [2]int{100, 10}), api.OK},
		{first(), 0, first(), api.OK},
		{first(), -50, second(), api.OK},
		{first(), 900, line([2]int{0, 1000}, [2]int{100, 900}), api.OK},
		{first(), 901, nil, api.ErrLarge},
		{first(), -1000, line([2]int{0, -900}, [2]int{100, -1000}), api.OK},
		{first(), -1001, nil, api.ErrLarge},
		{line([2]int{0, 1000}, [2]int{1, -1000}), 1, nil, api.ErrLarge},
		{line([2]int{0, 1000}, [2]int{1, -1000}), -1, nil, api.ErrLarge},
		{line([2]int{0, 1000}, [2]int{1, -1000}), 0, line([2]int{0, 1000}, [2]int{1, -1000}), api.OK},
		{line([2]int{0, 1000}, [2]int{1, 999}), -2000, nil, api.ErrLarge},
		{line([2]int{0, 1000}, [2]int{1, 999}), -1999, line([2]int{0, -999}, [2]int{1, -1000}), api.OK},
		{line([2]int{7, -999}, [2]int{9, -1000}), 1999, line([2]int{7, 1000}, [2]int{9, 999}), api.OK},
		{line([2]int{7, -999}, [2]int{9, -1000}), 2000, nil, api.ErrLarge},
	} {
		moved, e := flow.Moved(x.l, x.by)
		isList(t, fmt.Sprint(x.l, " moved by ", x.by), moved, x.want)
		is(t, fmt.Sprint(x.l, " moved by ", x.by), e, x.e)
	}
	for _, by := range beyond(-2000, 2000) {
		moved, e := flow.Moved(first(), by)
		isList(t, fmt.Sprint("moved by ", by), moved, nil)
		is(t, fmt.Sprint("moved by ", by), e, api.ErrRange)
	}
}

// P5.1
func TestCrossing(t *testing.T) {
	touching := line([2]int{100, 5}, [2]int{200, 0})
	bent := line([2]int{0, 1000}, [2]int{10, 0}, [2]int{30, -10})
	for _, x := range []struct {
		l       []flow.Line
		load    int
		voltage api.Ratio
		shares  []api.Ratio
	}{
		{[]flow.Line{first(), second()}, 0, ratio(75, 1), []api.Ratio{ratio(25, 1), ratio(-25, 1)}},
		{[]flow.Line{first(), second()}, 51, ratio(99, 2), []api.Ratio{ratio(101, 2), ratio(1, 2)}},
		{[]flow.Line{second(), first()}, 51, ratio(99, 2), []api.Ratio{ratio(1, 2), ratio(101, 2)}},
		{[]flow.Line{first(), second()}, 150, ratio(0, 1), []api.Ratio{ratio(100, 1), ratio(50, 1)}},
		{[]flow.Line{first(), second()}, -50, ratio(100, 1), []api.Ratio{ratio(0, 1), ratio(-50, 1)}},
		{[]flow.Line{first()}, 1, ratio(99, 1), []api.Ratio{ratio(1, 1)}},
		{[]flow.Line{first(), touching}, 5, ratio(100, 1), []api.Ratio{ratio(0, 1), ratio(5, 1)}},
		{[]flow.Line{touching, first(), second()}, -45, ratio(100, 1), []api.Ratio{ratio(5, 1), ratio(0, 1), ratio(-50, 1)}},
		{[]flow.Line{bent}, 999, ratio(1, 100), []api.Ratio{ratio(999, 1)}},
		{[]flow.Line{bent}, 1, ratio(999, 100), []api.Ratio{ratio(1, 1)}},
		{[]flow.Line{bent}, 0, ratio(10, 1), []api.Ratio{ratio(0, 1)}},
		{[]flow.Line{bent}, -1, ratio(12, 1), []api.Ratio{ratio(-1, 1)}},
		{[]flow.Line{bent}, -10, ratio(30, 1), []api.Ratio{ratio(-10, 1)}},
		{[]flow.Line{bent, bent, bent}, 2999, ratio(1, 300), []api.Ratio{ratio(2999, 3), ratio(2999, 3), ratio(2999, 3)}},
		{[]flow.Line{bent, bent, bent}, 3000, ratio(0, 1), []api.Ratio{ratio(1000, 1), ratio(1000, 1), ratio(1000, 1)}},
		{[]flow.Line{line([2]int{0, -1}, [2]int{1, -1000}), line([2]int{0, -1}, [2]int{1, -1000}), line([2]int{0, -1}, [2]int{1, -1000})}, -3000, ratio(1, 1), []api.Ratio{ratio(-1000, 1), ratio(-1000, 1), ratio(-1000, 1)}},
		{[]flow.Line{line([2]int{0, 1000}, [2]int{1000, -1000})}, -1000, ratio(1000, 1), []api.Ratio{ratio(-1000, 1)}},
		{[]flow.Line{line([2]int{0, 1000}, [2]int{1000, -1000})}, -999, ratio(1999, 2), []api.Ratio{ratio(-999, 1)}},
		{[]flow.Line{line([2]int{0, 1000}, [2]int{1000, -1000}), line([2]int{999, 1}, [2]int{1000, 0})}, -1000, ratio(1000, 1), []api.Ratio{ratio(-1000, 1), ratio(0, 1)}},
	} {
		what := fmt.Sprint(x.l, " for ", x.load)
		voltage, e := flow.Crossing(x.l, x.load)
		is(t, what, voltage, x.voltage)
		is(t, what, e, api.OK)
		shares, e := flow.Shares(x.l, x.load)
		isList(t, what, shares, x.shares)
		is(t, what, e, api.OK)
	}
}

// P5.1
func TestNoCrossing(t *testing.T) {
	touching := line([2]int{100, 5}, [2]int{200, 0})
	for _, x := range []struct {
		l    []flow.Line
		load int
		e    api.Errno
	}{
		{[]flow.Line{first()}, 101, api.ErrNone}, {[]flow.Line{first()}, -1, api.ErrNone},
		{[]flow.Line{first(), second()}, 151, api.ErrNone}, {[]flow.Line{first(), second()}, -51, api.ErrNone},
		{[]flow.Line{first(), touching}, 6, api.ErrNone}, {[]flow.Line{first(), touching}, 4, api.ErrNone},
		{[]flow.Line{touching, first()}, 6, api.ErrNone}, {[]flow.Line{touching, first()}, 4, api.ErrNone},
		{[]flow.Line{longest(), longest(), longest()}, 3000, api.ErrNone}, {[]flow.Line{longest(), longest(), longest()}, -3000, api.ErrNone},
	} {
		noCrossing(t, x.l, x.load, x.e)
	}
	for _, load := range beyond(-3000, 3000) {
		noCrossing(t, []flow.Line{first(), second()}, load, api.ErrRange)
	}
}

// noCrossing fails a test if lines do not have an error for a load.
func noCrossing(t *testing.T, l []flow.Line, load int, want api.Errno) {
	t.Helper()
	what := fmt.Sprint(l, " for ", load)
	voltage, e := flow.Crossing(l, load)
	is(t, what, voltage, api.Ratio{})
	is(t, what, e, want)
	shares, e := flow.Shares(l, load)
	isList(t, what, shares, nil)
	is(t, what, e, want)
}

// P5.1: crossings and shares are those of the definition.
func TestCrossingsOfMany(t *testing.T) {
	r := rand.New(rand.NewSource(512))
	found := 0
	for range 5000 {
		l := randomLines(r)
		load := between(r, -3000, 3000)
		if r.Intn(4) > 0 {
			low, high := common(l)
			near, _ := sumAt(l, big.NewRat(int64(between(r, low, high)), 1)).Float64()
			load = max(-3000, min(3000, int(near)+between(r, -2, 2)))
		}
		want := crossingOf(l, load)
		if want == nil {
			noCrossing(t, l, load, api.ErrNone)
			continue
		}
		found++
		what := fmt.Sprint(l, " for ", load)
		voltage, e := flow.Crossing(l, load)
		is(t, what, voltage, lowest(want))
		is(t, what, e, api.OK)
		shares, e := flow.Shares(l, load)
		is(t, what, e, api.OK)
		is(t, what, len(shares), len(l))
		for i, share := range shares {
			is(t, fmt.Sprint(what, ": share ", i), share, lowest(powerAt(l[i], want)))
		}
	}
	if found < 2000 || found > 4900 {
		t.Errorf("%d of 5000 have a crossing", found)
	}
}

// P5.1, P1: the greatest integers of a crossing are above MaxNumber, but not too
// large.
func TestGreatestCrossings(t *testing.T) {
	greatest := api.Ratio{}
	for a := 990; a <= 1000; a++ {
		l := []flow.Line{line([2]int{0, 1000}, [2]int{a, -1000}), line([2]int{0, 1000}, [2]int{997, -999}), line([2]int{1, 1000}, [2]int{1000, -997})}
		for load := -2980; load <= 2980; load += 7 {
			want := crossingOf(l, load)
			if want == nil {
				noCrossing(t, l, load, api.ErrNone)
				continue
			}
			voltage, e := flow.Crossing(l, load)
			is(t, fmt.Sprint(l, " for ", load), voltage, lowest(want))
			is(t, fmt.Sprint(l, " for ", load), e, api.OK)
			shares, _ := flow.Shares(l, load)
			for i, share := range shares {
				is(t, fmt.Sprint(l, " for ", load, ": share ", i), share, lowest(powerAt(l[i], want)))
			}
			if voltage.Den > greatest.Den {
				greatest = voltage
			}
		}
	}
	if greatest.Den <= api.MaxNumber || greatest.Num <= api.MaxNumber {
		t.Errorf("the greatest crossing is %v", greatest)
	}
}
