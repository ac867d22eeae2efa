package flow_test

import (
	"fmt"
	"math/rand"
	"slices"
	"testing"

	"bipole/api"
	"bipole/flow"
)

// rules is the rules of the chapter's examples, and three the merged orders.
var rules = flow.Rules{Rate: 4, Low: -50, High: 50}

func three() []flow.Order { return orders([2]int{5, 20}, [2]int{10, 25}, [2]int{15, -5}) }

// notFollowed fails a test if what is followed does not have an error, whatever
// the number of ticks and the index are.
func notFollowed(t *testing.T, x flow.Rules, from int, l []flow.Order, want api.Errno) {
	t.Helper()
	what := fmt.Sprint(x, " from ", from, ": ", l)
	at, refused, e := flow.Refused(x, from, l)
	is(t, what, at, 0)
	is(t, what, refused, false)
	is(t, what, e, want)
	for _, n := range []int{-1, 0, 1, 256, 257} {
		ramp, e := flow.Ramp(x, from, l, n)
		isList(t, what, ramp, nil)
		is(t, what, e, want)
		tick, e := flow.Latest(x, from, l, n)
		is(t, what, tick, 0)
		is(t, what, e, want)
	}
}

// badRules returns rules with an error.
func badRules(e api.Errno) []flow.Rules {
	if e == api.ErrOrder {
		return []flow.Rules{{Rate: 1, Low: 1, High: 0}, {Rate: 1000, Low: 1000, High: -1000}, {Rate: 4, Low: -5, High: -6}}
	}
	var l []flow.Rules
	for _, n := range beyond(1, 1000) {
		l = append(l, flow.Rules{Rate: n}, flow.Rules{Rate: n, Low: 1, High: 0})
	}
	for _, n := range beyond(-1000, 1000) {
		l = append(l, flow.Rules{Rate: 1, Low: n}, flow.Rules{Rate: 1, High: n}, flow.Rules{Rate: 1, Low: n, High: n})
	}
	return l
}

// P5.3: rules, then the first power, then the orders are asked for.
func TestNotFollowed(t *testing.T) {
	for _, e := range []api.Errno{api.ErrRange, api.ErrOrder} {
		for _, x := range badRules(e) {
			is(t, fmt.Sprint(x), flow.CheckRules(x), e)
			notFollowed(t, x, 0, nil, e)
			notFollowed(t, x, 2000, make([]flow.Order, 33), e)
		}
	}
	for _, x := range []flow.Rules{rules, {Rate: 1}, {Rate: 1000, Low: -1000, High: 1000}, {Rate: 1, Low: 1000, High: 1000}, {Rate: 1, Low: -1000, High: -1000}} {
		is(t, fmt.Sprint(x), flow.CheckRules(x), api.OK)
	}
	for _, from := range beyond(-50, 50) {
		notFollowed(t, rules, from, nil, api.ErrRange)
		notFollowed(t, rules, from, make([]flow.Order, 33), api.ErrRange)
		notFollowed(t, rules, from, orders([2]int{100, 2000}), api.ErrRange)
	}
	notFollowed(t, flow.Rules{Rate: 1, Low: 5, High: 9}, 0, orders([2]int{1, 5}), api.ErrRange)
	notFollowed(t, flow.Rules{Rate: 1, Low: -9, High: -5}, 0, nil, api.ErrRange)
	eachBadOrders(func(_ string, l []flow.Order, e api.Errno) {
		notFollowed(t, rules, 0, l, e)
		notFollowed(t, flow.Rules{Rate: 1}, 0, l, e)
	})
}

// P5.3
func TestBadTicksAndIndices(t *testing.T) {
	for _, l := range [][]flow.Order{nil, three()[:2], three(), orders([2]int{1, 1000})} {
		for _, ticks := range beyond(1, 256) {
			ramp, e := flow.Ramp(rules, 0, l, ticks)
			isList(t, fmt.Sprint(l, ticks), ramp, nil)
			is(t, fmt.Sprint(l, ticks), e, api.ErrRange)
		}
		for _, order := range beyond(0, len(l)-1) {
			tick, e := flow.Latest(rules, 0, l, order)
			is(t, fmt.Sprint(l, order), tick, 0)
			is(t, fmt.Sprint(l, order), e, api.ErrUnknown)
		}
	}
}

// P5.3
func TestRefused(t *testing.T) {
	for _, x := range []struct {
		x    flow.Rules
		from int
		l    []flow.Order
		at   int
		e    api.Errno // OK if none is refused
	}{
		{rules, 0, three(), 2, api.ErrRule},
		{rules, 0, three()[:2], 0, api.OK},
		{rules, 0, nil, 0, api.OK},
		{rules, 0, orders([2]int{5, 20}), 0, api.OK}, {rules, 0, orders([2]int{5, 21}), 0, api.ErrRule}, {rules, 0, orders([2]int{5, -20}), 0, api.OK}, {rules, 0, orders([2]int{5, -21}), 0, api.ErrRule}, {rules, 1, orders([2]int{5, -20}), 0, api.ErrRule},
		{rules, 7, orders([2]int{0, 7}), 0, api.OK}, {rules, 7, orders([2]int{0, 8}), 0, api.ErrRule}, {rules, 7, orders([2]int{0, 6}), 0, api.ErrRule},
		{rules, 50, orders([2]int{0, 50}, [2]int{25, -50}), 0, api.OK}, {rules, 50, orders([2]int{0, 50}, [2]int{24, -50}), 1, api.ErrRule},
		{rules, 0, orders([2]int{20, 50}), 0, api.OK}, {rules, 0, orders([2]int{20, 51}), 0, api.ErrBand}, {rules, 0, orders([2]int{20, -50}), 0, api.OK}, {rules, 0, orders([2]int{20, -51}), 0, api.ErrBand}, {rules, 0, orders([2]int{1, 51}), 0, api.ErrBand}, {rules, 0, orders([2]int{0, -1000}), 0, api.ErrBand},
		{rules, 0, orders([2]int{1, 5}, [2]int{20, 51}), 0, api.ErrRule}, {rules, 0, orders([2]int{20, 51}, [2]int{21, 0}), 0, api.ErrBand}, {rules, 0, orders([2]int{1, 4}, [2]int{2, 60}, [2]int{3, 0}), 1, api.ErrBand},
		{rules, 0, orders([2]int{10, 10}, [2]int{11, 14}, [2]int{12, 19}), 2, api.ErrRule}, {rules, 0, orders([2]int{10, 10}, [2]int{11, 14}, [2]int{12, 18}), 0, api.OK}, {rules, 0, orders([2]int{10, 10}, [2]int{11, 6}, [2]int{12, 1}), 2, api.ErrRule},
		{flow.Rules{Rate: 1, Low: 5, High: 5}, 5, orders([2]int{9, 5}), 0, api.OK}, {flow.Rules{Rate: 1000, Low: 5, High: 5}, 5, orders([2]int{9, 4}), 0, api.ErrBand},
		{flow.Rules{Rate: 1000, Low: -1000, High: 1000}, -1000, orders([2]int{2, 1000}, [2]int{3, 0}, [2]int{100000, 0}), 0, api.OK}, {flow.Rules{Rate: 999, Low: -1000, High: 1000}, -1000, orders([2]int{2, 1000}), 0, api.ErrRule},
		{flow.Rules{Rate: 1, Low: -1000, High: 1000}, 0, most(1, 1, 1), 0, api.OK},
		{flow.Rules{Rate: 1, Low: -1000, High: 1000}, 0, append(most(1, 1, 1)[:31], flow.Order{Tick: 32, Power: 3}), 31, api.ErrRule},
	} {
		what := fmt.Sprint(x.x, " from ", x.from, ": ", x.l)
		at, refused, e := flow.Refused(x.x, x.from, x.l)
		is(t, what, at, x.at)
		is(t, what, refused, x.e != api.OK)
		is(t, what, e, api.OK)
		for _, ticks := range []int{1, 256} {
			ramp, e := flow.Ramp(x.x, x.from, x.l, ticks)
			is(t, what, e, x.e)
			is(t, what, len(ramp) == ticks, x.e == api.OK)
		}
		for order := range x.l {
			tick, e := flow.Latest(x.x, x.from, x.l, order)
			want := x.e
			if order < x.at {
				want = api.OK
			}
			is(t, fmt.Sprint(what, ", order ", order), e, want)
			is(t, fmt.Sprint(what, ", order ", order), e == api.OK || tick == 0, true)
		}
	}
}

// P5.3
func TestRamp(t *testing.T) {
	for _, x := range []struct {
		x    flow.Rules
		from int
		l    []flow.Order
		want []int
	}{
		{rules, 0, three()[:2], []int{0, 4, 8, 12, 16, 20, 20, 20, 20, 21, 25, 25}},
		{rules, 0, three()[:2], []int{0, 4, 8}},
		{rules, 0, three()[:2], []int{0}},
		{rules, 3, nil, []int{3, 3, 3}},
		{rules, -3, orders([2]int{0, -3}), []int{-3, -3}},
		{rules, -3, orders([2]int{0, -3}, [2]int{2, 2}), []int{-3, -2, 2, 2}},
		{rules, 2, orders([2]int{0, 2}, [2]int{2, -3}), []int{2, 1, -3, -3}},
		{rules, 10, orders([2]int{4, 0}), []int{10, 10, 8, 4, 0, 0}},
		{rules, 0, orders([2]int{4, 10}, [2]int{6, 10}, [2]int{8, 3}), []int{0, 0, 2, 6, 10, 10, 10, 7, 3, 3}},
		{rules, 0, orders([2]int{100000, 50}), []int{0, 0, 0}},
		{flow.Rules{Rate: 1000, Low: -1000, High: 1000}, -1000, orders([2]int{2, 1000}, [2]int{3, 0}, [2]int{5, 0}, [2]int{6, -1}), []int{-1000, 0, 1000, 0, 0, 0, -1, -1}},
	} {
		ramp, e := flow.Ramp(x.x, x.from, x.l, len(x.want))
		isList(t, fmt.Sprint(x.x, " from ", x.from, ": ", x.l), ramp, x.want)
		is(t, fmt.Sprint(x.x, " from ", x.from, ": ", x.l), e, api.OK)
	}
	ramp, e := flow.Ramp(rules, 0, orders([2]int{255, 4}), 256)
	isList(t, "the most ticks", ramp, append(make([]int, 255), 4))
	is(t, "the most ticks", e, api.OK)
}

// P5.3
func TestLatest(t *testing.T) {
	for _, x := range []struct {
		from  int
		l     []flow.Order
		order int
		want  int
	}{
		{0, three(), 0, 0}, {0, three(), 1, 8}, {0, orders([2]int{5, 20}), 0, 0}, {0, orders([2]int{6, 20}), 0, 1}, {0, orders([2]int{6, 21}), 0, 0}, {0, orders([2]int{6, 17}), 0, 1}, {0, orders([2]int{6, 16}), 0, 2},
		{0, orders([2]int{6, -17}), 0, 1}, {0, orders([2]int{6, -16}), 0, 2}, {9, orders([2]int{6, 9}), 0, 6}, {9, orders([2]int{0, 9}), 0, 0}, {9, orders([2]int{0, 9}, [2]int{9, 9}, [2]int{10, 8}), 1, 9}, {9, orders([2]int{0, 9}, [2]int{9, 9}, [2]int{10, 8}), 2, 9},
		{0, orders([2]int{100000, 1}), 0, 99999}, {50, orders([2]int{100000, -50}), 0, 99975},
	} {
		tick, e := flow.Latest(rules, x.from, x.l, x.order)
		is(t, fmt.Sprint("from ", x.from, ": ", x.l, x.order), tick, x.want)
		is(t, fmt.Sprint("from ", x.from, ": ", x.l, x.order), e, api.OK)
	}
}

// rampOf returns a ramp tick by tick: backwards from each order to the one before
// it, as far as the rate permits; and whether each order is reached.
func rampOf(x flow.Rules, from int, l []flow.Order, ticks int) ([]int, bool) {
	end := max(ticks, 1)
	if len(l) > 0 {
		end = max(ticks, l[len(l)-1].Tick+1)
	}
	powers := slices.Repeat([]int{from}, end)
	tick, before := 0, from
	for _, o := range l {
		powers[o.Tick] = o.Power
		for back := o.Tick; back > tick; back-- {
			powers[back-1] = max(powers[back]-x.Rate, min(powers[back]+x.Rate, before))
		}
		if powers[tick] != before || o.Power < x.Low || o.Power > x.High {
			return nil, false
		}
		for next := o.Tick; next < end; next++ {
			powers[next] = o.Power
		}
		tick, before = o.Tick, o.Power
	}
	return powers[:ticks], true
}

// randomPlan returns rules, a first power and orders, most of which are followed.
func randomPlan(r *rand.Rand) (flow.Rules, int, []flow.Order) {
	x := flow.Rules{Rate: between(r, 1, 40), Low: between(r, -60, 0), High: between(r, 0, 60)}
	l := randomOrders(r, 5, 60, 30)
	for i := range l {
		if r.Intn(5) > 0 {
			l[i].Power = max(x.Low, min(x.High, l[i].Power))
		}
	}
	return x, between(r, x.Low, x.High), l
}

// P5.3: ramps are those of the definition, seen from the other side.
func TestRampsOfMany(t *testing.T) {
	r := rand.New(rand.NewSource(533))
	followed := 0
	for range 20000 {
		x, from, l := randomPlan(r)
		ticks := between(r, 1, 100)
		what := fmt.Sprint(x, " from ", from, ": ", l, ticks)
		want, ok := rampOf(x, from, l, ticks)
		_, refused, e := flow.Refused(x, from, l)
		is(t, what, refused, !ok)
		is(t, what, e, api.OK)
		ramp, e := flow.Ramp(x, from, l, ticks)
		isList(t, what, ramp, want)
		is(t, what, e == api.OK, ok)
		if !ok {
			at, _, _ := flow.Refused(x, from, l)
			_, before := rampOf(x, from, l[:at], 1)
			_, through := rampOf(x, from, l[:at+1], 1)
			is(t, what+": the first one", before && !through, true)
			outside := l[at].Power < x.Low || l[at].Power > x.High
			is(t, what, e == api.ErrBand, outside)
			is(t, what, e == api.ErrRule, !outside)
			continue
		}
		followed++
	}
	if followed < 2000 || followed > 18000 {
		t.Errorf("%d of 20000 are followed", followed)
	}
}
