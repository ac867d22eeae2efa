package books_test

import (
	"math/rand"
	"slices"

	"bipole/api"
)

// pick returns a random element of a list.
func pick[T any](r *rand.Rand, l ...T) T {
	return l[r.Intn(len(l))]
}

// The names that random events use.
var (
	stationNames = []string{"a", "b", "c"}
	orderNames   = []string{"o1", "o2", "o3", "o4", "o5", "o6", "o7", "o8"}
	outageNames  = []string{"x", "y", "z", "v", "w"}
	permitNames  = []string{"p", "q", "r", "s", "t"}
)

// randomName returns one of some names, or seldom one that no event uses.
func randomName(r *rand.Rand, names []string) string {
	if r.Intn(25) == 0 {
		return "none"
	}
	return pick(r, names...)
}

// knownName returns the name of one of the last things of a kind, or seldom any name.
func knownName(r *rand.Rand, m model, kind string, names []string) string {
	known := m.all(kind, "")
	if len(known) == 0 || r.Intn(6) == 0 {
		return randomName(r, names)
	}
	return pick(r, known[max(0, len(known)-3):]...).Names[0]
}

// randomSpan returns a span from about a tick on, mostly of a few hours.
func randomSpan(r *rand.Rand, tick int) []int {
	from := tick + pick(r, 0, 0, 1, 2, r.Intn(5), -1)
	return []int{from, from + pick(r, 1, 2, 3, 4, r.Intn(8), pick(r, 47, 48, 49))}
}

// randomEvent returns an event without an error by itself, which is often accepted after
// the events of a model.
func randomEvent(r *rand.Rand, m model, number int) api.Event {
	tick := m.tick() + pick(r, 0, 0, 0, 1, 1, 2, pick(r, 3, -1))
	kind := pick(r, "station", "price", "price", "order", "order", "order", "meter", "trip", "trip", "outage", "outage", "outage", "restore", "permit", "permit", "return", "return", "settle", "settle", "undo")
	if due := m.missing(tick); len(due) > 0 && r.Intn(3) > 0 {
		kind = "meter"
	}
	e := api.Event{Number: number, Kind: kind}
	switch kind {
	case "station":
		e.Names, e.Values = []string{randomName(r, stationNames)}, []int{tick, pick(r, 1000, 10, 9, 8, 7, 6, 5, 1, 0, 1001)}
	case "price":
		e.Names, e.Values = []string{randomName(r, stationNames)}, []int{tick, pick(r, 0, 1, 2, 3, 7, 1000, 1001)}
	case "order":
		e.Names = []string{randomName(r, orderNames), randomName(r, stationNames), randomName(r, stationNames)}
		e.Values = slices.Concat([]int{tick}, randomSpan(r, tick), []int{pick(r, 1, 2, 3, 4, 5, 10, 0, 1001)})
	case "meter":
		return randomMeter(r, m, e, tick)
	case "trip":
		e.Names, e.Values = []string{knownName(r, m, "order", orderNames)}, []int{tick}
	case "outage":
		e.Names = []string{randomName(r, outageNames), randomName(r, stationNames)}
		e.Values = slices.Concat([]int{tick}, randomSpan(r, tick), []int{pick(r, 0, 1, 2, 4, 7, 999)})
	case "restore":
		e.Names, e.Values = []string{knownName(r, m, "outage", outageNames)}, []int{tick}
	case "permit":
		e.Names, e.Values = []string{randomName(r, permitNames), knownName(r, m, "outage", outageNames)}, []int{tick}
	case "return":
		e.Names, e.Values = []string{knownName(r, m, "permit", permitNames)}, []int{tick}
	case "settle":
		e.Values = []int{tick, m.settled() + pick(r, 0, 1, 2, r.Intn(8), max(0, tick-m.settled()))}
	}
	for i, n := range e.Values {
		e.Values[i] = max(0, n)
	}
	return e
}

// randomMeter returns the meter of an hour of an order, mostly of one that is missing.
func randomMeter(r *rand.Rand, m model, e api.Event, tick int) api.Event {
	order, hour := knownName(r, m, "order", orderNames), max(0, tick-r.Intn(5))
	if due := m.missing(tick); len(due) > 0 && r.Intn(4) > 0 {
		gap := pick(r, due...)
		order, hour = gap.Order, gap.Hour
	} else if trips := m.all("trip", ""); len(trips) > 0 && r.Intn(2) == 0 {
		trip := pick(r, trips...)
		order, hour = trip.Names[0], trip.Values[0]+r.Intn(2)
	}
	sent := r.Intn(6)
	if x, known := m.one("order", order); known && r.Intn(6) > 0 {
		sent = r.Intn(x.Values[3] + 1)
	}
	e.Names, e.Values = []string{order}, []int{max(0, tick), hour, sent, pick(r, sent, sent, r.Intn(sent+1), sent+1)}
	return e
}

// randomJournal returns events that are accepted, of up to so many that are proposed.
func randomJournal(r *rand.Rand, proposed int) []api.Event {
	l := journal("station a 0 10", "station b 0 8", "price a 0 3", "order o1 a b 0 0 2 2")
	if r.Intn(4) == 0 {
		l = nil
	}
	for range proposed {
		m := modelOf(l)
		if e := randomEvent(r, m, len(l)+1); m.verdict(e) == api.OK {
			l = append(l, e)
		}
	}
	return l
}
