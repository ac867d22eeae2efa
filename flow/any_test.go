package flow_test

import (
	"fmt"
	"math"
	"math/rand"
	"slices"
	"testing"

	"bipole/api"
	"bipole/flow"
)

// anyInt returns an integer, often one at the end of a range.
func anyInt(r *rand.Rand) int {
	ends := []int{0, 1, 2, 8, 32, 50, 256, 1000, 2000, 3000, 10000, 100000, math.MaxInt32, math.MaxInt}
	n := ends[r.Intn(len(ends))] + r.Intn(3) - 1
	if r.Intn(3) == 0 {
		n = -n - 1
	}
	return n
}

// anyList returns a list of up to 300 elements.
func anyList[T any](r *rand.Rand, element func(*rand.Rand) T) []T {
	l := make([]T, r.Intn([]int{2, 5, 10, 300}[r.Intn(4)]))
	for i := range l {
		l[i] = element(r)
	}
	return l
}

func anyPoint(r *rand.Rand) flow.Point { return flow.Point{Voltage: anyInt(r), Power: anyInt(r)} }

func anyOrder(r *rand.Rand) flow.Order { return flow.Order{Tick: anyInt(r), Power: anyInt(r)} }

func anyByte(r *rand.Rand) byte { return "order 019-\n"[r.Intn(11)] }

// anyLine returns a line, or points from anywhere.
func anyLine(r *rand.Rand) flow.Line {
	if r.Intn(3) == 0 {
		return anyList(r, anyPoint)
	}
	return randomLine(r)
}

// anyOrders returns orders, or ticks and powers from anywhere.
func anyOrders(r *rand.Rand) []flow.Order {
	if r.Intn(3) == 0 {
		return anyList(r, anyOrder)
	}
	return randomOrders(r, 33, 100000, 1000)
}

// P1: every function returns, whatever its arguments are.
func TestAnyLines(t *testing.T) {
	r := rand.New(rand.NewSource(51))
	for range 10000 {
		l, lines, n := anyLine(r), randomLines(r), anyInt(r)
		if r.Intn(2) == 0 {
			lines = []flow.Line{l, anyLine(r), anyLine(r), anyLine(r)}[:r.Intn(5)]
		}
		flow.CheckLine(l)
		flow.At(l, n)
		flow.Moved(l, n)
		flow.CheckLines(lines)
		flow.Crossing(lines, n)
		flow.Shares(lines, n)
		flow.Shares(lines, r.Intn(200))
	}
}

// P1: every function returns, whatever its arguments are.
func TestAnyPowers(t *testing.T) {
	r := rand.New(rand.NewSource(52))
	for n := range 10000 {
		x := flow.Losses{Fixed: anyInt(r), Linear: anyInt(r), Square: anyInt(r)}
		y := flow.Support{Dead: anyInt(r), Gain: anyInt(r), Reserve: anyInt(r)}
		z := flow.Trip{Limit: anyInt(r), Most: anyInt(r), Chop: anyInt(r), Fall: anyInt(r)}
		s := flow.State{Voltage: anyInt(r), Inflow: anyInt(r)}
		if n%2 == 0 {
			x = randomLosses(r)
			y = flow.Support{Dead: 5, Gain: 1000, Reserve: 1000}
			z, _ = randomTrip(r)
		}
		flow.CheckLosses(x)
		flow.Loss(x, anyInt(r))
		flow.Delivered(x, anyInt(r))
		flow.Needed(x, anyInt(r))
		flow.Balance(x, anyList(r, anyInt))
		flow.CheckSupport(y)
		flow.Supported(y, anyInt(r))
		flow.Responses(y, anyList(r, anyInt))
		flow.CheckTrip(z)
		flow.Run(z, s)
		flow.Run(z, flow.State{Inflow: r.Intn(10001)})
	}
}

// P1: every function returns, whatever its arguments are.
func TestAnyOrders(t *testing.T) {
	r := rand.New(rand.NewSource(53))
	for range 20000 {
		l := anyOrders(r)
		x := flow.Rules{Rate: anyInt(r), Low: anyInt(r), High: anyInt(r)}
		from := anyInt(r)
		if r.Intn(2) == 0 {
			x, from, _ = randomPlan(r)
		}
		flow.CheckOrders(l)
		flow.Merged(l, anyOrders(r))
		flow.CheckRules(x)
		flow.Refused(x, from, l)
		flow.Ramp(x, from, l, anyInt(r))
		flow.Latest(x, from, l, anyInt(r))
		flow.Print(l)
	}
}

// P1: every function returns, whatever its arguments are.
func TestAnyTexts(t *testing.T) {
	r := rand.New(rand.NewSource(54))
	for range 5000 {
		s := anyList(r, func(r *rand.Rand) byte { return byte(r.Intn(256)) })
		flow.Parse(string(s))
		flow.Parse("order " + string(s))
		flow.Parse("order 5 20\norder 1" + string(anyList(r, anyByte)))
		bad := []byte(text)
		bad[r.Intn(len(bad))] = anyByte(r)
		flow.Parse(string(bad))
		flow.Parse(string(bad[:r.Intn(len(bad))]))
	}
}

// P1: the greatest numbers on the way are not too large for an integer.
func TestGreatestNumbers(t *testing.T) {
	lost, e := flow.Loss(flow.Losses{Fixed: 1000, Linear: 1000, Square: 1000}, 1000)
	is(t, "the greatest loss", lost, api.Interval{Low: 2930, High: 2931})
	is(t, "the greatest loss", e, api.OK)
	wide := flow.Rules{Rate: 1000, Low: -1000, High: 1000}
	ramp, e := flow.Ramp(wide, -1000, orders([2]int{100000, 1000}), 256)
	isList(t, "the longest ramp", ramp, slices.Repeat([]int{-1000}, 256))
	is(t, "the longest ramp", e, api.OK)
	tick, e := flow.Latest(wide, -1000, orders([2]int{100000, 1000}), 0)
	is(t, "the longest ramp", tick, 99998)
	is(t, "the longest ramp", e, api.OK)
	power, e := flow.Supported(flow.Support{Gain: 1000, Reserve: 1000}, -10000)
	is(t, "the greatest support", power, 1000)
	is(t, "the greatest support", e, api.OK)
}

// P5.1 to P5.5: results share no memory with arguments or with earlier results,
// and arguments are not changed.
func TestMemory(t *testing.T) {
	l := append(first(), second()...)[:2]
	for _, by := range []int{0, 10} {
		moved, _ := flow.Moved(l, by)
		clear(append(moved, flow.Point{}))
		isList(t, "a line that was moved", l[:4], append(first(), second()...))
	}
	lines := []flow.Line{first(), second()}
	shares, _ := flow.Shares(lines, 0)
	clear(shares)
	shares, _ = flow.Shares(lines, 0)
	isList(t, "shares", shares, []api.Ratio{ratio(25, 1), ratio(-25, 1)})
	is(t, "lines", fmt.Sprint(lines), fmt.Sprint([]flow.Line{first(), second()}))
	a, b := append(market(), other()...)[:2], append(other(), market()...)[:1]
	for _, pair := range [][2][]flow.Order{{a, b}, {b, a}, {a, nil}, {nil, a}, {a, a}} {
		merged, _ := flow.Merged(pair[0], pair[1])
		clear(append(merged, flow.Order{}))
		isList(t, "orders that were merged", a[:3], append(market(), other()...))
		isList(t, "orders that were merged", b[:3], append(other(), market()...))
	}
	powers := []int{64, 32, 0}
	flow.Balance(shown, powers)
	flow.Responses(support, powers)
	isList(t, "powers", powers, []int{64, 32, 0})
	plan := three()
	flow.Refused(rules, 0, plan)
	flow.Ramp(rules, 0, plan[:2], 12)
	flow.Latest(rules, 0, plan, 1)
	flow.Print(plan)
	isList(t, "orders", plan, three())
	parsed, _, _ := flow.Parse(text)
	clear(parsed)
	parsed, _, _ = flow.Parse(text)
	isList(t, "orders of a text", parsed, market())
}
