package flow_test

import (
	"fmt"
	"math/rand"
	"testing"

	"bipole/api"
	"bipole/flow"
)

// market and other are the orders of the two markets of the chapter's examples.
func market() []flow.Order { return orders([2]int{5, 20}, [2]int{15, -10}) }

func other() []flow.Order { return orders([2]int{10, 5}) }

// most returns the most orders, at ticks from one on with a distance.
func most(from, distance, power int) []flow.Order {
	var l []flow.Order
	for i := range 32 {
		l = append(l, flow.Order{Tick: from + distance*i, Power: power})
	}
	return l
}

// P5.3
func TestCheckOrders(t *testing.T) {
	eachBadOrders(func(what string, l []flow.Order, want api.Errno) {
		is(t, what, flow.CheckOrders(l), want)
		merged, e := flow.Merged(l, nil)
		isList(t, what, merged, nil)
		is(t, what, e, want)
		merged, e = flow.Merged(most(0, 2, 1000), l)
		isList(t, what, merged, nil)
		is(t, what, e, want)
		merged, e = flow.Merged(l, orders([2]int{-1, 0}))
		isList(t, what, merged, nil)
		is(t, what, e, want)
	})
	for _, l := range [][]flow.Order{nil, {}, market(), other(), orders([2]int{0, -1000}, [2]int{1, 1000}, [2]int{100000, 1000}), most(0, 1, 5), most(99969, 1, 0)} {
		is(t, fmt.Sprint(l), flow.CheckOrders(l), api.OK)
	}
	_, e := flow.Merged(orders([2]int{1, 0}, [2]int{1, 0}), make([]flow.Order, 33))
	is(t, "both are wrong", e, api.ErrOrder)
	_, e = flow.Merged(make([]flow.Order, 33), orders([2]int{1, 0}, [2]int{1, 0}))
	is(t, "both are wrong", e, api.ErrMany)
}

// P5.3
func TestMerged(t *testing.T) {
	for _, x := range []struct {
		a, b, want []flow.Order
	}{
		{market(), other(), orders([2]int{5, 20}, [2]int{10, 25}, [2]int{15, -5})},
		{other(), market(), orders([2]int{5, 20}, [2]int{10, 25}, [2]int{15, -5})},
		{market(), nil, market()}, {nil, market(), market()}, {nil, nil, nil},
		{market(), market(), orders([2]int{5, 40}, [2]int{15, -20})},
		{orders([2]int{7, 3}), orders([2]int{7, -3}), orders([2]int{7, 0})},
		{orders([2]int{0, 1000}), orders([2]int{100000, 0}), orders([2]int{0, 1000}, [2]int{100000, 1000})},
		{orders([2]int{0, 1000}, [2]int{2, 0}), orders([2]int{1, -1000}, [2]int{3, 1000}), orders([2]int{0, 1000}, [2]int{1, 0}, [2]int{2, -1000}, [2]int{3, 1000})},
		{most(0, 2, 500), most(0, 2, 500), most(0, 2, 1000)},
		{most(9, 3, -1000), orders([2]int{9, 1}), most(9, 3, -999)},
	} {
		merged, e := flow.Merged(x.a, x.b)
		isList(t, fmt.Sprint(x.a, x.b), merged, x.want)
		is(t, fmt.Sprint(x.a, x.b), e, api.OK)
	}
}

// P5.3
func TestNotMerged(t *testing.T) {
	for _, x := range []struct {
		a, b []flow.Order
		e    api.Errno
	}{
		{most(0, 2, 0), orders([2]int{1, 0}), api.ErrMany}, {orders([2]int{100000, 0}), most(0, 2, 0), api.ErrMany}, {most(0, 2, 0), most(1, 2, 0), api.ErrMany},
		{most(0, 2, 1000), orders([2]int{1, 1000}), api.ErrMany}, {most(0, 2, 1000), orders([2]int{0, 1}, [2]int{1, 1000}), api.ErrMany},
		{orders([2]int{1, 1000}), orders([2]int{1, 1}), api.ErrLarge}, {orders([2]int{1, -1000}), orders([2]int{1, -1}), api.ErrLarge}, {orders([2]int{1, 1000}), orders([2]int{2, 1}), api.ErrLarge}, {orders([2]int{3, -1}), orders([2]int{2, -1000}), api.ErrLarge},
		{most(0, 2, 1000), orders([2]int{62, 1}), api.ErrLarge}, {most(0, 2, 501), most(0, 2, 500), api.ErrLarge},
	} {
		merged, e := flow.Merged(x.a, x.b)
		isList(t, fmt.Sprint(x.a, x.b), merged, nil)
		is(t, fmt.Sprint(x.a, x.b), e, x.e)
	}
}

// P5.3: merged orders are those of the definition.
func TestMergedOfMany(t *testing.T) {
	r := rand.New(rand.NewSource(531))
	seen := map[api.Errno]int{}
	for range 3000 {
		a, b := randomOrders(r, 32, 80, 700), randomOrders(r, 12, 80, 700)
		if r.Intn(2) == 0 {
			a, b = randomOrders(r, 32, 80, 500), randomOrders(r, 32, 80, 500)
		}
		var want []flow.Order
		wanted := api.OK
		for tick := range 81 {
			for _, o := range append(a[:len(a):len(a)], b...) {
				if o.Tick == tick && (len(want) == 0 || want[len(want)-1].Tick < tick) {
					want = append(want, flow.Order{Tick: tick, Power: askedOf(a, tick) + askedOf(b, tick)})
				}
			}
		}
		for _, o := range want {
			if o.Power < -1000 || o.Power > 1000 {
				wanted = api.ErrLarge
			}
		}
		if len(want) > 32 {
			wanted = api.ErrMany
		}
		if wanted != api.OK {
			want = nil
		}
		merged, e := flow.Merged(a, b)
		isList(t, fmt.Sprint(a, b), merged, want)
		is(t, fmt.Sprint(a, b), e, wanted)
		seen[e]++
	}
	if len(seen) != 3 || seen[api.OK] < 500 || seen[api.ErrMany] < 100 || seen[api.ErrLarge] < 100 {
		t.Errorf("the errors are %v", seen)
	}
}
