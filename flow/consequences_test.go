package flow_test

import (
	"fmt"
	"math/big"
	"math/rand"
	"testing"

	"bipole/api"
	"bipole/flow"
)

// P5.6: the shares add up to the load, no other common voltage is a crossing, and
// a greater load has a lesser crossing.
func TestConsequencesOfCrossings(t *testing.T) {
	r := rand.New(rand.NewSource(561))
	for range 100 {
		l := randomLines(r)
		low, high := common(l)
		last := big.NewRat(int64(high)+1, 1)
		for load := -3000; load <= 3000; load += 1 + r.Intn(20) {
			what := fmt.Sprint(l, " for ", load)
			wanted := big.NewRat(int64(load), 1)
			voltage, e := flow.Crossing(l, load)
			if e != api.OK {
				above := sumAt(l, big.NewRat(int64(high), 1)).Cmp(wanted) > 0
				below := sumAt(l, big.NewRat(int64(low), 1)).Cmp(wanted) < 0
				is(t, what+": no voltage is a crossing", above || below, true)
				continue
			}
			at := exact(voltage)
			is(t, what+": a lesser crossing", at.Cmp(last) < 0, true)
			is(t, what+": a common voltage", at.Cmp(big.NewRat(int64(low), 1)) >= 0 && at.Cmp(big.NewRat(int64(high), 1)) <= 0, true)
			last = at
			shares, _ := flow.Shares(l, load)
			sum := new(big.Rat)
			for _, share := range shares {
				sum.Add(sum, exact(share))
			}
			is(t, what+": the sum of the shares", lowest(sum), ratio(load, 1))
			for v := low; v <= high; v += 1 + r.Intn(50) {
				is(t, fmt.Sprint(what, ": another voltage ", v), sumAt(l, big.NewRat(int64(v), 1)).Cmp(wanted), -big.NewRat(int64(v), 1).Cmp(at))
			}
		}
	}
}

// P5.6, P5.1: where the crossing is an integer, the shares are the powers there,
// and a moved line takes the load that is moved.
func TestConsequencesOfMovedLines(t *testing.T) {
	r := rand.New(rand.NewSource(562))
	moved := 0
	for range 3000 {
		l := randomLines(r)
		low, high := common(l)
		voltage := between(r, low, high)
		sum := sumAt(l, big.NewRat(int64(voltage), 1))
		if !sum.IsInt() {
			continue
		}
		load := int(sum.Num().Int64())
		shares, e := flow.Shares(l, load)
		is(t, fmt.Sprint(l, " for ", load), e, api.OK)
		for i, share := range shares {
			power, _ := flow.At(l[i], voltage)
			is(t, fmt.Sprint(l, " for ", load), share, power)
		}
		by := between(r, -300, 300)
		next, e := flow.Moved(l[0], by)
		if e != api.OK || load+by < -3000 || load+by > 3000 {
			continue
		}
		moved++
		at, e := flow.Crossing(append([]flow.Line{next}, l[1:]...), load+by)
		is(t, fmt.Sprint(l, " for ", load, " moved by ", by), at, ratio(voltage, 1))
		is(t, fmt.Sprint(l, " for ", load, " moved by ", by), e, api.OK)
	}
	if moved < 200 {
		t.Errorf("only %d lines are moved", moved)
	}
}

// P5.6: what is delivered and the loss make the power again, and the needed power
// is the least one of which enough is delivered.
func TestConsequencesOfLosses(t *testing.T) {
	r := rand.New(rand.NewSource(563))
	for range 3000 {
		x, power := randomLosses(r), r.Intn(1001)
		what := fmt.Sprint(x, " at ", power)
		lost, _ := flow.Loss(x, power)
		delivered, _ := flow.Delivered(x, power)
		if lost.High <= power {
			is(t, what, delivered.Low+lost.High, power)
			is(t, what, delivered.High+lost.Low, power)
		}
		alone, _ := flow.Balance(x, []int{power})
		is(t, what, alone, delivered)
		needed, e := flow.Needed(x, power)
		if e != api.OK {
			continue
		}
		enough, _ := flow.Delivered(x, needed)
		is(t, what+": enough", enough.Low >= power, true)
		for less := range needed {
			d, _ := flow.Delivered(x, less)
			is(t, fmt.Sprint(what, ": less than needed ", less), d.Low < power, true)
		}
	}
}

// P5.6: a ramp never changes by more than the rate, reaches each order at its
// tick, begins where it is said, and could not begin later.
func TestConsequencesOfRamps(t *testing.T) {
	r := rand.New(rand.NewSource(564))
	followed := 0
	for range 5000 {
		x, from, l := randomPlan(r)
		ramp, e := flow.Ramp(x, from, l, 100)
		if e != api.OK {
			continue
		}
		followed++
		what := fmt.Sprint(x, " from ", from, ": ", l)
		is(t, what+": the first power", ramp[0], from)
		for tick := range 99 {
			change := ramp[tick+1] - ramp[tick]
			is(t, fmt.Sprint(what, ": the rate at ", tick), change <= x.Rate && -change <= x.Rate, true)
			is(t, fmt.Sprint(what, ": the limits at ", tick), x.Low <= ramp[tick] && ramp[tick] <= x.High, true)
		}
		before := flow.Order{Power: from}
		for i, o := range l {
			is(t, fmt.Sprint(what, ": order ", i), ramp[o.Tick], o.Power)
			begins, e := flow.Latest(x, from, l, i)
			is(t, fmt.Sprint(what, ": order ", i), e, api.OK)
			is(t, fmt.Sprint(what, ": order ", i, " is begun after the one before"), begins >= before.Tick && begins <= o.Tick, true)
			for tick := before.Tick; tick <= begins; tick++ {
				is(t, fmt.Sprint(what, ": held at ", tick), ramp[tick], before.Power)
			}
			if begins < o.Tick {
				is(t, fmt.Sprint(what, ": begun at ", begins), ramp[begins+1] != before.Power, true)
				later := orders([2]int{o.Tick - begins - 1, o.Power})
				_, refused, _ := flow.Refused(x, before.Power, later)
				is(t, fmt.Sprint(what, ": too late after ", begins), refused, true)
			}
			before = o
		}
	}
	if followed < 500 {
		t.Errorf("only %d plans are followed", followed)
	}
}

// P5.6: merged orders ask for what both ask for, whichever is the first one.
func TestConsequencesOfMergedOrders(t *testing.T) {
	r := rand.New(rand.NewSource(565))
	for range 2000 {
		a, b := randomOrders(r, 12, 70, 500), randomOrders(r, 12, 70, 500)
		merged, e := flow.Merged(a, b)
		is(t, fmt.Sprint(a, b), e, api.OK)
		is(t, fmt.Sprint(a, b), flow.CheckOrders(merged), api.OK)
		for tick := range 75 {
			is(t, fmt.Sprint(a, b, " at ", tick), askedOf(merged, tick), askedOf(a, tick)+askedOf(b, tick))
		}
		swapped, _ := flow.Merged(b, a)
		isList(t, fmt.Sprint(b, a), swapped, merged)
	}
}

// P5.6: a support is the opposite at the opposite deviation, and never more than
// the reserve.
func TestConsequencesOfSupports(t *testing.T) {
	r := rand.New(rand.NewSource(566))
	for range 3000 {
		x := flow.Support{Dead: r.Intn(100), Gain: r.Intn(1001), Reserve: r.Intn(1001)}
		deviation := between(r, 0, 3000)
		above, _ := flow.Supported(x, deviation)
		below, _ := flow.Supported(x, -deviation)
		both, _ := flow.Responses(x, []int{deviation, -deviation})
		is(t, fmt.Sprint(x, deviation), above, -below)
		is(t, fmt.Sprint(x, deviation), below >= 0 && below <= x.Reserve, true)
		isList(t, fmt.Sprint(x, deviation), both, []int{above, below})
	}
}

// P5.6: a run ends in a safe point, its first one, and is the run of each of its
// states from there on.
func TestConsequencesOfRuns(t *testing.T) {
	r := rand.New(rand.NewSource(567))
	done := 0
	for range 3000 {
		x, s := randomTrip(r)
		run, _, e := flow.Run(x, s)
		if e != api.OK {
			continue
		}
		done++
		what := fmt.Sprint(x, " from ", s)
		is(t, what, run[0], s)
		for i, now := range run {
			is(t, fmt.Sprint(what, ": safe at ", i), now.Inflow == 0 && now.Voltage <= x.Limit, i == len(run)-1)
			rest, _, e := flow.Run(x, now)
			isList(t, fmt.Sprint(what, ": the rest from ", i), rest, run[i:])
			is(t, fmt.Sprint(what, ": the rest from ", i), e, api.OK)
		}
	}
	if done < 500 {
		t.Errorf("only %d runs end", done)
	}
}

// P5.6: orders are parsed as they were printed.
func TestConsequencesOfTexts(t *testing.T) {
	r := rand.New(rand.NewSource(568))
	for range 2000 {
		l := randomOrders(r, 32, []int{40, 100000}[r.Intn(2)], 1000)
		s, e := flow.Print(l)
		is(t, fmt.Sprint(l), e, api.OK)
		parsed, at, e := flow.Parse(s)
		isList(t, s, parsed, l)
		is(t, s+": index", at, 0)
		is(t, s+": error", e, api.OK)
		again, _ := flow.Print(parsed)
		is(t, s+": printed again", again, s)
	}
}
