package valve_test

import (
	"fmt"
	"math/rand"
	"slices"
	"testing"

	"bipole/api"
	"bipole/valve"
)

// upTo returns the ticks of a list that are not above one.
func upTo(l []int, tick int) []int {
	return slices.DeleteFunc(slices.Clone(l), func(n int) bool { return n > tick })
}

// P7.6, P8: where a change-over is possible it changes no pulse of the hold, and the
// bumps up to it are those of the first train.
func TestConsequencesOfChangeOvers(t *testing.T) {
	r := rand.New(rand.NewSource(761))
	possible := 0
	for range 3000 {
		x, y := twoLogs(r, []int{0, 99950}[r.Intn(2)])
		from, hold, limit := r.Intn(2)*99950+r.Intn(20), between(r, 1, 16), r.Intn(3)
		tick, e := valve.ChangeOver(x, y, from, hold)
		if e != api.OK {
			continue
		}
		possible++
		what := fmt.Sprint(x, " to ", y, " at ", tick, " with the hold ", hold)
		is(t, what, tick >= from, true)
		l, e := valve.Switched(x, y, tick)
		is(t, what, e, api.OK)
		is(t, what, valve.CheckTrain(l), api.OK)
		for at := max(tick-100, 0); at < tick+hold; at++ {
			p, has := find(l, at)
			q, had := find(x.Train, at)
			is(t, fmt.Sprint(what, ": ", at), p, q)
			is(t, fmt.Sprint(what, ": ", at), has, had)
		}
		before, _ := valve.Bumps(x.Train, limit)
		bumps, e := valve.Bumps(l, limit)
		is(t, what, e, api.OK)
		isList(t, what, upTo(bumps, tick+hold-1), upTo(before, tick+hold-1))
	}
	if possible < 300 {
		t.Errorf("only %d change-overs are possible", possible)
	}
}

// P7.6: a vote of logs that do not differ is each of them where more than half have
// the tick.
func TestConsequencesOfVotes(t *testing.T) {
	r := rand.New(rand.NewSource(762))
	voted := 0
	for range 2000 {
		common := randomTrain(r, r.Intn(9), 30)
		var l []valve.Log
		for controller := range between(r, 1, 6) {
			some := slices.DeleteFunc(slices.Clone(common), func(valve.Pulse) bool { return r.Intn(3) == 0 })
			l = append(l, logOf(controller, some))
		}
		for _, x := range l {
			for _, y := range l {
				_, differ, e := valve.Differ(x, y)
				is(t, fmt.Sprint(x, y), differ, false)
				is(t, fmt.Sprint(x, y), e, api.OK)
			}
		}
		var want []valve.Pulse
		for _, p := range common {
			have := 0
			for _, x := range l {
				if slices.Contains(x.Train, p) {
					have++
				}
			}
			if 2*have > len(l) {
				want = append(want, p)
			}
		}
		vote, e := valve.Vote(l)
		isList(t, fmt.Sprint(l), vote, want)
		is(t, fmt.Sprint(l), e, api.OK)
		voted += len(vote)
	}
	if voted < 5000 {
		t.Errorf("only %d ticks are voted", voted)
	}
}

// P7.6: the log of the telegrams of a log is the log, from any start that is not
// above its first tick, nor 65536 before it.
func TestConsequencesOfTelegrams(t *testing.T) {
	r := rand.New(rand.NewSource(763))
	for range 2000 {
		l := logOf(r.Intn(256), randomTrain(r, r.Intn(90000), 60))
		if n := len(l.Train); n > 0 && l.Train[0].Tick+65536 <= 100000 && r.Intn(2) == 0 {
			next := max(l.Train[0].Tick+65536-r.Intn(2), l.Train[n-1].Tick+1)
			l.Train = append(l.Train[:1:1], valve.Pulse{Tick: next, Pulses: 5})
			is(t, "far", next-l.Train[0].Tick <= 65536, true)
		}
		telegrams, e := valve.Telegrams(l)
		is(t, fmt.Sprint(l), e, api.OK)
		first := 100000
		if len(l.Train) > 0 {
			first = l.Train[0].Tick
		}
		lowest := max(first-65535, 0)
		for _, start := range []int{first, lowest, between(r, lowest, first)} {
			got, e := valve.Received(telegrams, l.Controller, start)
			isLog(t, fmt.Sprint(l, " from ", start), got, l)
			is(t, fmt.Sprint(l, " from ", start), e, api.OK)
		}
	}
}

// P7.6: a substituted valve has no switchings, and the spare one those of the failed
// one; all others keep theirs.
func TestConsequencesOfSubstitutes(t *testing.T) {
	r := rand.New(rand.NewSource(764))
	substituted := 0
	for range 3000 {
		l, failed, spare := randomTrain(r, 0, 50), r.Intn(12), r.Intn(12)
		l, _ = valve.Bypassed(l, []int{0, 1 << spare}[r.Intn(2)])
		what := fmt.Sprint(l, ": ", spare, " for ", failed)
		after, e := valve.Substituted(l, failed, spare)
		if e != api.OK {
			continue
		}
		substituted++
		want, _ := valve.Switchings(l)
		want[spare], want[failed] = want[failed], 0
		got, e := valve.Switchings(after)
		is(t, what, got, want)
		is(t, what, e, api.OK)
		back, e := valve.Substituted(after, spare, failed)
		isList(t, what, back, l)
		is(t, what, e, api.OK)
	}
	if substituted < 500 {
		t.Errorf("only %d valves are substituted", substituted)
	}
}

// randomPlan returns a list of outages for modules, most of them permitted ones.
func randomPlan(r *rand.Rand, m []valve.Module, o []valve.Outage) []int {
	plan := make([]int, len(m))
	for k := range plan {
		plan[k] = r.Intn(len(o))
		for n := 0; n < 9 && !permitted(o[plan[k]], m[k]); n++ {
			plan[k] = r.Intn(len(o))
		}
	}
	return plan
}

// P7.6, P8: no plan has a lesser cost than the best one, nor than prices prove.
func TestConsequencesOfPrices(t *testing.T) {
	r := rand.New(rand.NewSource(765))
	plans, exact, below := 0, 0, 0
	for range 3000 {
		m, o := randomTask(r)
		best, least, e := valve.Plan(m, o)
		if e != api.OK {
			continue
		}
		what := fmt.Sprint(m, " and ", o)
		cost, e := valve.CheckPlan(m, o, best)
		is(t, what, cost, least)
		is(t, what, e, api.OK)
		for range 20 {
			plan := randomPlan(r, m, o)
			cost, e := valve.CheckPlan(m, o, plan)
			if e != api.OK {
				continue
			}
			plans++
			is(t, fmt.Sprint(plan, " of ", what), cost > least || cost == least && slices.Compare(plan, best) >= 0, true)
		}
		prices, e := valve.Prices(m, o)
		is(t, what, e, api.OK)
		for range 10 {
			proved, e := valve.CheckPrices(m, o, prices)
			is(t, fmt.Sprint(prices, " of ", what), e != api.OK || proved <= least, true)
			if e == api.OK && proved == least {
				exact++
			} else if e == api.OK {
				below++
			}
			if len(prices) > 0 {
				prices[r.Intn(len(prices))] = r.Intn(r.Intn(20) + 1)
			}
		}
	}
	if plans < 1000 || exact < 1000 || below < 1000 {
		t.Errorf("only %d plans, %d exact proofs and %d others", plans, exact, below)
	}
}

// P7.6: with one spare fewer a plan is not possible, if it needs some.
func TestConsequencesOfSpares(t *testing.T) {
	r := rand.New(rand.NewSource(766))
	some := 0
	for range 3000 {
		m, o := randomTask(r)
		plan, _, e := valve.Plan(m, o)
		if e != api.OK {
			continue
		}
		l := randomDeliveries(r)
		what := fmt.Sprint(plan, " of ", m, " and ", o, " with ", l)
		n, _ := valve.Spares(m, o, plan, l)
		is(t, what, suffice(o, plan, l, n), true)
		if n > 0 {
			some++
			is(t, what, suffice(o, plan, l, n-1), false)
			with, e := valve.Spares(m, o, plan, append(l, valve.Delivery{Tick: 0, Count: 1}))
			is(t, what, with, n-1)
			is(t, what, e, api.OK)
		}
	}
	if some < 300 {
		t.Errorf("only %d plans need spares", some)
	}
}

// P7.6: logs are parsed as they were printed.
func TestConsequencesOfTexts(t *testing.T) {
	r := rand.New(rand.NewSource(767))
	for range 2000 {
		l := logOf(r.Intn(256), randomTrain(r, r.Intn(90000), 200))
		s, e := valve.Print(l)
		is(t, fmt.Sprint(l), e, api.OK)
		parsed, at, e := valve.Parse(s)
		isLog(t, s, parsed, l)
		is(t, s+": index", at, 0)
		is(t, s+": error", e, api.OK)
		again, _ := valve.Print(parsed)
		is(t, s+": printed again", again, s)
	}
}
