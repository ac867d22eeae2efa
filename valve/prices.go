package valve

import (
	"slices"

	"bipole/api"
	"bipole/check"
	"bipole/list"
	"bipole/whole"
)

// Prices returns the first prices.
func Prices(m []Module, o []Outage) ([]int, api.Errno) {
	if e := checkTask(m, o); e != api.OK {
		return nil, e
	}
	return firstPrices(m, o)
}

// firstPrices returns the first prices of well-formed modules and outages, or
// ErrInfeasible.
func firstPrices(m []Module, o []Outage) ([]int, api.Errno) {
	var prices []int
	left := costs(o)
	for _, module := range m {
		var choice []int
		for i := range permitted(o, module) {
			choice = append(choice, left[i])
		}
		if len(choice) == 0 {
			return nil, api.ErrInfeasible
		}
		price := slices.Min(choice)
		prices = append(prices, price)
		pay(left, o, module, price)
	}
	return prices, api.OK
}

func costs(o []Outage) []int {
	return list.Mapped(o, func(outage Outage) int { return outage.Cost })
}

// pay takes the price of a module from what is left of the costs of all outages
// that are permitted for it.
func pay(left []int, o []Outage, m Module, price int) {
	for i := range permitted(o, m) {
		left[i] -= price
	}
}

// CheckPrices returns the sum that prices prove.
func CheckPrices(m []Module, o []Outage, prices []int) (int, api.Errno) {
	if e := checkTask(m, o); e != api.OK {
		return 0, e
	}
	if len(prices) != len(m) {
		return 0, api.ErrShape
	}
	if e := check.Each(prices, checkCost); e != api.OK {
		return 0, e
	}
	left := costs(o)
	for k, module := range m {
		pay(left, o, module, prices[k])
	}
	if slices.ContainsFunc(left, func(n int) bool { return n < 0 }) {
		return 0, api.ErrProof
	}
	return whole.Sum(prices), api.OK
}

func checkCost(cost int) api.Errno {
	return check.Range(cost, 0, MaxCost)
}
