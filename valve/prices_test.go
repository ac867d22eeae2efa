package valve_test

import (
	"fmt"
	"math/rand"
	"testing"

	"bipole/api"
	"bipole/valve"
)

// arePrices fails a test if the first prices are not the expected ones.
func arePrices(t *testing.T, m []valve.Module, o []valve.Outage, want []int, wanted api.Errno) {
	t.Helper()
	what := fmt.Sprint(m, " and ", o)
	prices, e := valve.Prices(m, o)
	isList(t, what, prices, want)
	is(t, what, e, wanted)
}

// P7.5: prices are chosen module by module, and do not ask for hours.
func TestPrices(t *testing.T) {
	eachBadTask(func(what string, m []valve.Module, o []valve.Outage, want api.Errno) {
		prices, e := valve.Prices(m, o)
		isList(t, what, prices, nil)
		is(t, what, e, want)
	})
	arePrices(t, modules(), outages(4), []int{10, 0}, api.OK)
	arePrices(t, modules(), outages(0), []int{10, 0}, api.OK)
	arePrices(t, modules()[1:], outages(4), []int{6}, api.OK)
	arePrices(t, []valve.Module{modules()[1], modules()[0]}, outages(4), []int{6, 4}, api.OK)
	arePrices(t, nil, nil, nil, api.OK)
	arePrices(t, nil, outages(4), nil, api.OK)
	arePrices(t, modules(), outages(4)[1:], nil, api.ErrInfeasible)
	arePrices(t, modules(), nil, nil, api.ErrInfeasible)
	arePrices(t, append(modules(), module("m3", 9, 14)), outages(4), nil, api.ErrInfeasible)
	arePrices(t, sameModules(3, 1), sameOutages(1, 1000000, 999999), []int{999999, 0, 0}, api.OK)
	ends := []valve.Module{module("a", 2, 2), module("b", 1, 2), module("c", 0, 1), module("d", 0, 5)}
	arePrices(t, ends, sameOutages(1, 7, 9, 4), []int{4, 0, 7, 0}, api.OK)
	arePrices(t, ends, sameOutages(1, 9, 7, 4, 0), []int{4, 0, 7, 0}, api.OK)
	arePrices(t, ends[2:], sameOutages(1, 9, 7, 4, 3), []int{7, 0}, api.OK)
	arePrices(t, ends[1:], sameOutages(1, 9, 7, 4, 3), []int{4, 3, 0}, api.OK)
}

// permitted reports whether an outage is permitted for a module, by the definition.
func permitted(o valve.Outage, m valve.Module) bool {
	return m.From <= o.Tick && o.Tick <= m.By
}

// pricesOf returns the first prices, by the definition.
func pricesOf(m []valve.Module, o []valve.Outage) ([]int, api.Errno) {
	var prices []int
	for k := range m {
		price := -1
		for _, x := range o {
			if !permitted(x, m[k]) {
				continue
			}
			left := x.Cost
			for j := range k {
				if permitted(x, m[j]) {
					left -= prices[j]
				}
			}
			if price < 0 || left < price {
				price = left
			}
		}
		if price < 0 {
			return nil, api.ErrInfeasible
		}
		prices = append(prices, price)
	}
	return prices, api.OK
}

// P7.5: the first prices are those of the definition, and prove their sum.
func TestPricesOfMany(t *testing.T) {
	r := rand.New(rand.NewSource(751))
	seen := map[api.Errno]int{}
	for range 3000 {
		m, o := randomTask(r)
		what := fmt.Sprint(m, " and ", o)
		want, wanted := pricesOf(m, o)
		prices, e := valve.Prices(m, o)
		isList(t, what, prices, want)
		is(t, what, e, wanted)
		seen[e]++
		if e != api.OK {
			continue
		}
		sum := 0
		for _, n := range prices {
			sum += n
		}
		proved, e := valve.CheckPrices(m, o, prices)
		is(t, what, proved, sum)
		is(t, what, e, api.OK)
	}
	if seen[api.OK] < 500 || seen[api.ErrInfeasible] < 500 {
		t.Errorf("the errors are %v", seen)
	}
}

// proveNothing fails a test if prices prove their sum, or there is another error.
func proveNothing(t *testing.T, what string, m []valve.Module, o []valve.Outage, prices []int, want api.Errno) {
	t.Helper()
	sum, e := valve.CheckPrices(m, o, prices)
	is(t, fmt.Sprint(what, ": ", prices), sum, 0)
	is(t, fmt.Sprint(what, ": ", prices), e, want)
}

// P7.5: modules, outages and prices are asked for in this order.
func TestBadPrices(t *testing.T) {
	eachBadTask(func(what string, m []valve.Module, o []valve.Outage, e api.Errno) {
		for _, prices := range [][]int{nil, {0, 0}, {-1}, make([]int, len(m))} {
			proveNothing(t, what, m, o, prices, e)
		}
	})
	for _, prices := range [][]int{nil, {1}, {-1}, {1, 1, 1}, {-1, 1, 1000001}} {
		proveNothing(t, "", modules(), outages(4), prices, api.ErrShape)
	}
	proveNothing(t, "", nil, nil, []int{0}, api.ErrShape)
	for _, n := range beyond(0, 1000000) {
		for _, prices := range [][]int{{n, 0}, {0, n}, {11, n}, {n, 7}} {
			proveNothing(t, "", modules(), outages(4), prices, api.ErrRange)
		}
	}
	for _, prices := range [][]int{{11, 0}, {0, 7}, {5, 6}, {4, 7}, {1000000, 1000000}, {10, 1}} {
		proveNothing(t, "", modules(), outages(4), prices, api.ErrProof)
	}
	for k := range 8 {
		prices := make([]int, 8)
		prices[k] = 1
		proveNothing(t, "", sameModules(8, 1), sameOutages(1, 5, 5, 5, 5, 5, 0), prices, api.ErrProof)
	}
	proveNothing(t, "", []valve.Module{module("a", 5, 5)}, []valve.Outage{{Tick: 4}, {Tick: 5, Cost: 1}}, []int{2}, api.ErrProof)
}

// P7.5: prices that are nowhere above a cost prove their sum.
func TestCheckPrices(t *testing.T) {
	late := []valve.Module{module("a", 9, 14), module("b", 16, 20)}
	for _, x := range []struct {
		m      []valve.Module
		o      []valve.Outage
		prices []int
		sum    int
	}{
		{modules(), outages(4), []int{4, 6}, 10}, {modules(), outages(4), []int{10, 0}, 10}, {modules(), outages(0), []int{0, 6}, 6}, {modules(), outages(4), []int{0, 0}, 0}, {modules(), outages(4), []int{3, 5}, 8}, {nil, nil, nil, 0}, {nil, outages(4), nil, 0},
		{late, outages(4), []int{1000000, 1000000}, 2000000}, {modules(), nil, []int{1000000, 0}, 1000000}, {modules(), outages(4)[1:], []int{1000000, 6}, 1000006}, {sameModules(8, 1), sameOutages(1, 1000000), []int{125000, 125000, 125000, 125000, 125000, 125000, 125000, 125000}, 1000000},
	} {
		what := fmt.Sprint(x.prices, " of ", x.m, " and ", x.o)
		sum, e := valve.CheckPrices(x.m, x.o, x.prices)
		is(t, what, sum, x.sum)
		is(t, what, e, api.OK)
	}
}

// P7.5: what prices prove is that of the definition.
func TestCheckPricesOfMany(t *testing.T) {
	r := rand.New(rand.NewSource(752))
	seen := map[api.Errno]int{}
	for range 3000 {
		m, o := randomTask(r)
		prices, sum := make([]int, len(m)), 0
		for k := range prices {
			prices[k] = r.Intn(r.Intn(5) + 1)
			sum += prices[k]
		}
		what := fmt.Sprint(prices, " of ", m, " and ", o)
		wanted := api.OK
		for _, x := range o {
			paid := 0
			for k := range m {
				if permitted(x, m[k]) {
					paid += prices[k]
				}
			}
			if paid > x.Cost {
				wanted, sum = api.ErrProof, 0
			}
		}
		proved, e := valve.CheckPrices(m, o, prices)
		is(t, what, proved, sum)
		is(t, what, e, wanted)
		seen[e]++
	}
	if seen[api.OK] < 500 || seen[api.ErrProof] < 500 {
		t.Errorf("the errors are %v", seen)
	}
}
