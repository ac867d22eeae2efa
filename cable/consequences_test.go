package cable_test

import (
	"fmt"
	"math/rand"
	"testing"

	"bipole/api"
	"bipole/cable"
)

// P6.5: the first arrival at an end is the direct wave, and without this one
// there is none.
func TestConsequencesOfDirectWaves(t *testing.T) {
	r := rand.New(rand.NewSource(651))
	seen := map[api.Errno]int{}
	for range 3000 {
		c := randomCable(r)
		f, end := randomFault(r, c), bothEnds[r.Intn(2)]
		what := fmt.Sprint(f, " of ", c, " at ", end)
		l, _ := cable.Arrivals(c, f, 1000)
		first, e := cable.First(l, end)
		direct, wanted := cable.Direct(c, f, end)
		is(t, what, e, wanted)
		is(t, what, [2]int{first.Tick, first.Height}, direct)
		seen[e]++
		if e != api.OK {
			continue
		}
		for window, n := range map[int]int{first.Tick - f.Tick: 1, first.Tick - f.Tick - 1: 0} {
			l, _ := cable.Arrivals(c, f, window)
			heard := 0
			for _, a := range l {
				if a.End == end {
					heard++
				}
			}
			is(t, fmt.Sprint(what, " in ", window), heard, n)
		}
	}
	if seen[api.OK] < 1000 || seen[api.ErrNone] < 50 {
		t.Errorf("the errors are %v", seen)
	}
}

// P6.5: by any threshold of a zone an end trips for each fault in it that is high
// enough, and for none outside that is not too high.
func TestConsequencesOfThresholds(t *testing.T) {
	r := rand.New(rand.NewSource(652))
	inside, outside := 0, 0
	for range 3000 {
		c := randomCable(r)
		z := randomZone(r, c)
		x, e := cable.Thresholds(c, z)
		if e != api.OK {
			continue
		}
		for range 10 {
			f := randomFault(r, c)
			isInside := f.Section >= z.Sections.From && f.Section < z.Sections.To
			if isInside {
				f.Height = between(r, z.Least, 1024)
				inside++
			} else {
				f.Height = between(r, 1, z.Most)
				outside++
			}
			f.Height *= 2*r.Intn(2) - 1
			l, _ := cable.Arrivals(c, f, 1000)
			for _, threshold := range []int{x.Low, x.High, between(r, x.Low, x.High)} {
				trips, e := cable.Trips(l, z, threshold)
				is(t, fmt.Sprint(f, " of ", c, ": ", z, " by ", threshold), trips, isInside)
				is(t, fmt.Sprint(f, " of ", c, ": ", z, " by ", threshold), e, api.OK)
			}
		}
	}
	if inside < 1000 || outside < 1000 {
		t.Errorf("only %d faults inside and %d outside", inside, outside)
	}
}

// P6.5: the located places hold the fault, also if the ticks at both ends have
// errors.
func TestConsequencesOfPlaces(t *testing.T) {
	r := rand.New(rand.NewSource(653))
	located := 0
	for range 3000 {
		c := randomCable(r)
		f := randomFault(r, c)
		what := fmt.Sprint(f, " of ", c)
		a, e := cable.Direct(c, f, "A")
		b, e2 := cable.Direct(c, f, "B")
		if e != api.OK || e2 != api.OK {
			continue
		}
		located++
		place, _ := cable.Place(c, ticksFromA(c, f))
		p, e := cable.Locate(c, interval(a[0], a[0]), interval(b[0], b[0]))
		is(t, what, p, [2]api.Ratio{place, place})
		is(t, what, e, api.OK)
		before, after := interval(max(a[0]-r.Intn(9), 0), a[0]+r.Intn(9)), interval(max(b[0]-r.Intn(9), 0), b[0]+r.Intn(9))
		p, e = cable.Locate(c, before, after)
		is(t, what, e, api.OK)
		is(t, what, exact(p[0]).Cmp(exact(place)) <= 0 && exact(p[1]).Cmp(exact(place)) >= 0, true)
	}
	if located < 1000 {
		t.Errorf("only %d faults are located", located)
	}
}

// exchanged returns arrivals with the other ends.
func exchanged(l []cable.Arrival) map[cable.Arrival]bool {
	set := map[cable.Arrival]bool{}
	for _, a := range l {
		a.End = map[string]string{"A": "B", "B": "A"}[a.End]
		set[a] = true
	}
	return set
}

// P6.5: a reversed cable has the same arrivals at the other ends, and the reversed
// one of it is the cable.
func TestConsequencesOfReversedCables(t *testing.T) {
	r := rand.New(rand.NewSource(654))
	for range 2000 {
		c := randomCable(r)
		f, window := randomFault(r, c), r.Intn(1001)
		what := fmt.Sprint(f, " of ", c, " in ", window)
		d, e := cable.Reversed(c)
		is(t, what, e, api.OK)
		x, e := cable.Turned(c, f)
		is(t, what, e, api.OK)
		l, _ := cable.Arrivals(c, f, window)
		want := exchanged(l)
		l, _ = cable.Arrivals(d, x, window)
		is(t, what, len(l), len(want))
		for _, a := range l {
			is(t, fmt.Sprint(what, ": ", a), want[a], true)
		}
		back, _ := cable.Reversed(d)
		isCable(t, what, back, c)
	}
}

// P6.5: a fault that is twice as high has arrivals that are twice as high.
func TestConsequencesOfHigherFaults(t *testing.T) {
	r := rand.New(rand.NewSource(655))
	for range 2000 {
		c := randomCable(r)
		f, window := randomFault(r, c), r.Intn(1001)
		f.Height = between(r, 1, 512) * (2*r.Intn(2) - 1)
		l, _ := cable.Arrivals(c, f, window)
		f.Height *= 2
		twice, _ := cable.Arrivals(c, f, window)
		for i := range l {
			l[i].Height *= 2
		}
		isList(t, fmt.Sprint(f, " of ", c, " in ", window), twice, l)
	}
}

// P6.5: a breaker opens below its limit, and not before.
func TestConsequencesOfOpenings(t *testing.T) {
	r := rand.New(rand.NewSource(656))
	opened := 0
	for range 3000 {
		c := randomCable(r)
		f, end := randomFault(r, c), bothEnds[r.Intn(2)]
		limit, window := between(r, 1, 100*unit), between(r, 0, 1000)
		l, _ := cable.Arrivals(c, f, window)
		what := fmt.Sprint(f, " of ", c, " at ", end, " by ", limit, " in ", window)
		tick, e := cable.Opening(l, end, f.Tick, limit, window)
		if e == api.OK {
			opened++
			sum := sumOf(l, end, tick)
			is(t, what, sum < limit && -sum < limit, true)
		} else {
			tick = f.Tick + window + 1
		}
		for before := f.Tick; before < tick; before++ {
			sum := sumOf(l, end, before)
			is(t, what, sum >= limit || -sum >= limit, true)
		}
		p := planned(1, 1, r.Intn(50), limit, window)
		both, e := cable.Cleared(c, f, p)
		for i, end := range bothEnds {
			first, _ := cable.Direct(c, f, end)
			sum := sumOf(l, end, both[i])
			is(t, what, e != api.OK || sum < limit && -sum < limit && both[i] >= first[0]+p.Wait && both[i] <= first[0]+p.Wait+window, true)
		}
	}
	if opened < 1000 {
		t.Errorf("only %d breakers open", opened)
	}
}

// P6.5: a cable that is split has the same length, delays and direct waves.
func TestConsequencesOfSplitCables(t *testing.T) {
	r := rand.New(rand.NewSource(657))
	split := 0
	for range 3000 {
		c := randomCable(r)
		f, section := randomFault(r, c), r.Intn(len(c.Sections))
		ticks := r.Intn(c.Sections[section].Delay)
		d, e := cable.Split(c, section, ticks)
		if e != api.OK || section == f.Section && ticks == f.Offset {
			continue
		}
		split++
		what := fmt.Sprint(f, " of ", c, " split in ", section, " after ", ticks)
		is(t, what, cable.CheckCable(d), api.OK)
		l, _ := cable.Length(c)
		after, _ := cable.Length(d)
		is(t, what, after, l)
		x := f
		switch {
		case section == f.Section && ticks < f.Offset:
			x.Section++
			x.Offset -= ticks
		case section < f.Section:
			x.Section++
		}
		for _, end := range bothEnds {
			direct, e := cable.Direct(c, f, end)
			same, e2 := cable.Direct(d, x, end)
			is(t, what, same, direct)
			is(t, what, e2, e)
		}
	}
	if split < 500 {
		t.Errorf("only %d cables are split", split)
	}
}

// P6.5: cables are parsed as they were printed.
func TestConsequencesOfTexts(t *testing.T) {
	r := rand.New(rand.NewSource(658))
	for range 2000 {
		c := randomCable(r)
		s, e := cable.Print(c)
		is(t, fmt.Sprint(c), e, api.OK)
		parsed, at, e := cable.Parse(s)
		isCable(t, s, parsed, c)
		is(t, s+": index", at, 0)
		is(t, s+": error", e, api.OK)
		again, _ := cable.Print(parsed)
		is(t, s+": printed again", again, s)
	}
}
