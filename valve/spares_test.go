package valve_test

import (
	"fmt"
	"math/rand"
	"slices"
	"testing"

	"bipole/api"
	"bipole/valve"
)

// deliveries returns deliveries, each a tick and a count.
func deliveries(l ...[2]int) []valve.Delivery {
	var result []valve.Delivery
	for _, d := range l {
		result = append(result, valve.Delivery{Tick: d[0], Count: d[1]})
	}
	return result
}

// P7.5: the plan is asked for before the deliveries.
func TestBadSpares(t *testing.T) {
	no := func(what string, m []valve.Module, o []valve.Outage, plan []int, l []valve.Delivery, want api.Errno) {
		t.Helper()
		what = fmt.Sprintf("%s with the deliveries %.100v", what, l)
		n, e := valve.Spares(m, o, plan, l)
		is(t, what, n, 0)
		is(t, what, e, want)
	}
	eachBadPlan(func(what string, m []valve.Module, o []valve.Outage, plan []int, e api.Errno) {
		no(what, m, o, plan, nil, e)
		no(what, m, o, plan, deliveries([2]int{-1, 0}), e)
		no(what, m, o, plan, make([]valve.Delivery, 65), e)
	})
	bad := func(want api.Errno, l []valve.Delivery) {
		t.Helper()
		no("", modules(), outages(4), []int{0, 1}, l, want)
		no("", nil, nil, nil, l, want)
	}
	bad(api.ErrMany, make([]valve.Delivery, 65))
	bad(api.ErrMany, slices.Repeat(deliveries([2]int{1, 1}), 65))
	for _, n := range beyond(0, 100000) {
		bad(api.ErrRange, deliveries([2]int{n, 1}))
		bad(api.ErrRange, deliveries([2]int{5, 1}, [2]int{n, 1}))
	}
	for _, n := range beyond(1, 100) {
		bad(api.ErrRange, deliveries([2]int{1, n}))
		bad(api.ErrRange, deliveries([2]int{5, 1}, [2]int{4, n}))
	}
}

// P7.5: a delivery counts at its tick, and in any order.
func TestSpares(t *testing.T) {
	late := slices.Repeat(deliveries([2]int{16, 100}), 64)
	six, three := sameModules(6, 1), sameOutages(4, 1, 1, 1)
	for _, x := range []struct {
		m    []valve.Module
		o    []valve.Outage
		plan []int
		l    []valve.Delivery
		want int
	}{
		{modules(), outages(4), []int{0, 1}, nil, 2}, {modules(), outages(4), []int{0, 1}, deliveries([2]int{15, 1}), 1}, {modules(), outages(4), []int{0, 1}, deliveries([2]int{16, 1}), 2}, {modules(), outages(4), []int{0, 1}, deliveries([2]int{9, 5}), 1}, {modules(), outages(4), []int{0, 1}, deliveries([2]int{8, 1}, [2]int{0, 1}), 0}, {modules(), outages(4), []int{0, 1}, deliveries([2]int{8, 1}), 1}, {modules(), outages(4), []int{0, 1}, deliveries([2]int{0, 2}), 0}, {modules(), outages(4), []int{0, 1}, deliveries([2]int{0, 100}), 0},
		{modules(), outages(5), []int{0, 0}, nil, 2}, {modules(), outages(5), []int{0, 0}, deliveries([2]int{9, 2}), 2}, {modules(), outages(4), []int{0, 1}, late, 2}, {modules(), outages(4), []int{0, 1}, append(deliveries([2]int{15, 1}), late[1:]...), 1}, {modules(), outages(4), []int{0, 1}, append(late[1:], valve.Delivery{Tick: 8, Count: 2}), 0},
		{nil, nil, nil, nil, 0}, {nil, outages(4), nil, late, 0}, {sameModules(8, 1), sameOutages(100, 0), []int{0, 0, 0, 0, 0, 0, 0, 0}, nil, 8}, {sameModules(8, 1), sameOutages(100, 0), []int{0, 0, 0, 0, 0, 0, 0, 0}, deliveries([2]int{0, 3}), 5},
		{six, three, []int{0, 2, 1, 2, 2, 0}, nil, 6}, {six, three, []int{0, 2, 1, 2, 2, 0}, deliveries([2]int{2, 3}, [2]int{1, 1}), 2}, {six, three, []int{0, 2, 1, 2, 2, 0}, deliveries([2]int{2, 9}), 3}, {six, three, []int{0, 2, 1, 2, 2, 0}, deliveries([2]int{0, 9}), 0}, {six, three, []int{2, 2, 2, 1, 2, 0}, deliveries([2]int{2, 1}, [2]int{2, 1}, [2]int{0, 1}), 3}, {six, three, []int{0, 0, 0, 0, 2, 2}, deliveries([2]int{1, 1}), 5},
	} {
		what := fmt.Sprint(x.plan, " of ", x.m, " and ", x.o, " with ", x.l)
		n, e := valve.Spares(x.m, x.o, x.plan, x.l)
		is(t, what, n, x.want)
		is(t, what, e, api.OK)
	}
}

// suffice reports whether so many spares at the start suffice, by the definition.
func suffice(o []valve.Outage, plan []int, l []valve.Delivery, start int) bool {
	for i, x := range o {
		there, needed := start, 0
		for _, d := range l {
			if d.Tick <= x.Tick {
				there += d.Count
			}
		}
		for _, at := range plan {
			if at <= i {
				needed++
			}
		}
		if there < needed {
			return false
		}
	}
	return true
}

// randomDeliveries returns up to five deliveries.
func randomDeliveries(r *rand.Rand) []valve.Delivery {
	l := make([]valve.Delivery, r.Intn(6))
	for i := range l {
		l[i] = valve.Delivery{Tick: r.Intn(70), Count: between(r, 1, 3)}
	}
	return l
}

// P7.5: the spares are the least number that suffices.
func TestSparesOfMany(t *testing.T) {
	r := rand.New(rand.NewSource(753))
	seen := map[int]int{}
	for range 3000 {
		m, o := randomTask(r)
		plan, _, e := valve.Plan(m, o)
		if e != api.OK {
			continue
		}
		l := randomDeliveries(r)
		what := fmt.Sprint(plan, " of ", m, " and ", o, " with ", l)
		want := 0
		for !suffice(o, plan, l, want) {
			want++
		}
		n, e := valve.Spares(m, o, plan, l)
		is(t, what, n, want)
		is(t, what, e, api.OK)
		seen[n]++
	}
	for n := range 6 {
		if seen[n] < 10 {
			t.Errorf("the spares are %v", seen)
		}
	}
}
