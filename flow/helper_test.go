package flow_test

import (
	"fmt"
	"math"
	"math/big"
	"math/rand"
	"slices"
	"testing"

	"bipole/api"
	"bipole/flow"
)

// is fails a test if a result is not the expected one.
func is[T comparable](t *testing.T, what string, got, want T) {
	t.Helper()
	if got != want {
		t.Errorf("%s: got %v, want %v", what, got, want)
	}
}

// isList fails a test if a list is not the expected one; nil and empty lists are equal.
func isList[T comparable](t *testing.T, what string, got, want []T) {
	t.Helper()
	if !slices.Equal(got, want) {
		t.Errorf("%s: got %v, want %v", what, got, want)
	}
}

// beyond returns integers that are not from low to high.
func beyond(low, high int) []int {
	return []int{low - 1, high + 1, -1 << 40, 1 << 40, math.MinInt, math.MaxInt}
}

// between returns a random integer from low to high.
func between(r *rand.Rand, low, high int) int {
	return low + r.Intn(high-low+1)
}

// line returns the line with points, each a voltage and a power.
func line(points ...[2]int) flow.Line {
	var l flow.Line
	for _, p := range points {
		l = append(l, flow.Point{Voltage: p[0], Power: p[1]})
	}
	return l
}

// orders returns orders, each a tick and a power.
func orders(l ...[2]int) []flow.Order {
	var result []flow.Order
	for _, o := range l {
		result = append(result, flow.Order{Tick: o[0], Power: o[1]})
	}
	return result
}

// first and second are the lines A and B of the chapter's examples.
func first() flow.Line { return line([2]int{0, 100}, [2]int{100, 0}) }

func second() flow.Line { return line([2]int{0, 50}, [2]int{100, -50}) }

// longest returns a line with the most points.
func longest() flow.Line {
	var l flow.Line
	for i := range 8 {
		l = append(l, flow.Point{Voltage: 100 * i, Power: 400 - 100*i})
	}
	return l
}

// ratio returns the ratio of two integers that have no common divisor.
func ratio(num, den int) api.Ratio {
	return api.Ratio{Num: num, Den: den}
}

// lowest returns an exact number as a ratio.
func lowest(x *big.Rat) api.Ratio {
	return ratio(int(x.Num().Int64()), int(x.Denom().Int64()))
}

// exact returns a ratio as an exact number.
func exact(x api.Ratio) *big.Rat {
	return big.NewRat(int64(x.Num), int64(x.Den))
}

// powerAt returns the power of a line at one of its voltages, by the definition.
func powerAt(l flow.Line, voltage *big.Rat) *big.Rat {
	for i, p := range l {
		behind := new(big.Rat).Sub(voltage, big.NewRat(int64(p.Voltage), 1))
		if behind.Sign() == 0 {
			return big.NewRat(int64(p.Power), 1)
		}
		if i+1 < len(l) && voltage.Cmp(big.NewRat(int64(l[i+1].Voltage), 1)) < 0 {
			fall := big.NewRat(int64(l[i+1].Power-p.Power), int64(l[i+1].Voltage-p.Voltage))
			return fall.Add(fall.Mul(fall, behind), big.NewRat(int64(p.Power), 1))
		}
	}
	panic("not a voltage of the line")
}

// sumAt returns the sum of the powers of lines at a common voltage.
func sumAt(l []flow.Line, voltage *big.Rat) *big.Rat {
	sum := new(big.Rat)
	for _, x := range l {
		sum.Add(sum, powerAt(x, voltage))
	}
	return sum
}

// common returns the least and the greatest voltage that all lines have.
func common(l []flow.Line) (int, int) {
	low, high := 0, 1000
	for _, x := range l {
		low, high = max(low, x[0].Voltage), min(high, x[len(x)-1].Voltage)
	}
	return low, high
}

// crossingOf returns the crossing of lines, or nil: it lies between two voltages
// of points that follow each other, or at one of them.
func crossingOf(l []flow.Line, load int) *big.Rat {
	low, high := common(l)
	stops := []int{low, high}
	for _, x := range l {
		for _, p := range x {
			if p.Voltage > low && p.Voltage < high {
				stops = append(stops, p.Voltage)
			}
		}
	}
	slices.Sort(stops)
	wanted := big.NewRat(int64(load), 1)
	for i, stop := range stops {
		here := sumAt(l, big.NewRat(int64(stop), 1))
		if here.Cmp(wanted) == 0 {
			return big.NewRat(int64(stop), 1)
		}
		if i == 0 || here.Cmp(wanted) > 0 {
			continue
		}
		before := sumAt(l, big.NewRat(int64(stops[i-1]), 1))
		if before.Cmp(wanted) < 0 {
			return nil
		}
		part := new(big.Rat).Sub(before, wanted)
		part.Quo(part, before.Sub(before, here))
		part.Mul(part, big.NewRat(int64(stop-stops[i-1]), 1))
		return part.Add(part, big.NewRat(int64(stops[i-1]), 1))
	}
	return nil
}

// randomLine returns a line.
func randomLine(r *rand.Rand) flow.Line {
	n := between(r, 2, 8)
	voltages, powers := map[int]bool{}, map[int]bool{}
	wide := []int{10, 50, 1000}[r.Intn(3)]
	for len(voltages) < n {
		voltages[r.Intn(wide+1)] = true
	}
	for len(powers) < n {
		powers[between(r, -wide, wide)] = true
	}
	l := make(flow.Line, n)
	for i, v := range sorted(voltages) {
		l[i].Voltage = v
	}
	for i, p := range sorted(powers) {
		l[n-1-i].Power = p
	}
	return l
}

// sorted returns the elements of a set, in ascending order.
func sorted(set map[int]bool) []int {
	var l []int
	for n := range set {
		l = append(l, n)
	}
	slices.Sort(l)
	return l
}

// randomLines returns lines of stations that have common voltages.
func randomLines(r *rand.Rand) []flow.Line {
	for {
		var l []flow.Line
		for range between(r, 1, 3) {
			l = append(l, randomLine(r))
		}
		if flow.CheckLines(l) == api.OK {
			return l
		}
	}
}

// randomOrders returns orders up to a tick, with powers up to a greatest one.
func randomOrders(r *rand.Rand, most, last, power int) []flow.Order {
	ticks := map[int]bool{}
	for range r.Intn(most + 1) {
		ticks[r.Intn(last+1)] = true
	}
	var l []flow.Order
	for _, tick := range sorted(ticks) {
		l = append(l, flow.Order{Tick: tick, Power: between(r, -power, power)})
	}
	return l
}

// askedOf returns the power that orders ask for at a tick.
func askedOf(l []flow.Order, tick int) int {
	power := 0
	for _, o := range l {
		if o.Tick <= tick {
			power = o.Power
		}
	}
	return power
}

// badOrders returns orders with each error, most of them with later errors, too.
func badOrders() map[api.Errno][][]flow.Order {
	many := make([]flow.Order, 33)
	for i := range many {
		many[i].Tick = i
	}
	l := map[api.Errno][][]flow.Order{
		api.ErrMany:  {many, make([]flow.Order, 33), make([]flow.Order, 1000), orders(slices.Repeat([][2]int{{-1, 0}}, 33)...)},
		api.ErrOrder: {orders([2]int{5, 0}, [2]int{5, 0}), orders([2]int{5, 1}, [2]int{4, 2}), orders([2]int{1, 0}, [2]int{2, 0}, [2]int{2, 1}, [2]int{-1, 0}), orders([2]int{0, 0}, [2]int{0, 1}), make([]flow.Order, 32)},
	}
	for _, tick := range beyond(0, 100000) {
		l[api.ErrRange] = append(l[api.ErrRange], orders([2]int{tick, 0}), orders([2]int{4, 0}, [2]int{tick, 0}), orders([2]int{tick, 0}, [2]int{4, 0}, [2]int{4, 0}))
	}
	for _, power := range beyond(-1000, 1000) {
		l[api.ErrRange] = append(l[api.ErrRange], orders([2]int{3, power}), orders([2]int{4, 0}, [2]int{4, power}), orders([2]int{4, power}, [2]int{4, 0}))
	}
	return l
}

// eachBadOrders calls a function with orders and with the error that they have.
func eachBadOrders(f func(what string, l []flow.Order, e api.Errno)) {
	for e, lists := range badOrders() {
		for _, l := range lists {
			f(fmt.Sprint("orders ", l), l, e)
		}
	}
}
