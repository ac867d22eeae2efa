package books_test

import (
	"slices"

	"bipole/api"
	"bipole/books"
)

// model is events that count, from which all that the chapter defines is read by going
// through them again and again: it has no register.
type model []api.Event

// modelOf returns those of some accepted events that count.
func modelOf(l []api.Event) model {
	var m model
	for _, e := range l {
		if e.Kind == "undo" {
			m = m[: len(m)-1 : len(m)-1]
		} else {
			m = append(m, e)
		}
	}
	return m
}

// all returns the events of a kind, of those with a first name or of all, in their order.
func (m model) all(kind, name string) []api.Event {
	var l []api.Event
	for _, e := range m {
		if e.Kind == kind && (name == "" || e.Names[0] == name) {
			l = append(l, e)
		}
	}
	return l
}

// one returns the only event of a kind with a first name, and whether there is one.
func (m model) one(kind, name string) (api.Event, bool) {
	if l := m.all(kind, name); len(l) == 1 {
		return l[0], true
	}
	return api.Event{}, false
}

// is reports whether there is a station, an order, an outage or a permit with a name.
func (m model) is(kind, name string) bool {
	_, known := m.one(kind, name)
	return known
}

func (m model) tick() int {
	if len(m) == 0 {
		return 0
	}
	return m[len(m)-1].Values[0]
}

func (m model) settled() int {
	if l := m.all("settle", ""); len(l) > 0 {
		return l[len(l)-1].Values[1]
	}
	return 0
}

// price returns the price of a station after some of the events.
func (m model) price(station string) int {
	if l := m.all("price", station); len(l) > 0 {
		return l[len(l)-1].Values[1]
	}
	return 0
}

// agreed returns the price of an order.
func (m model) agreed(order api.Event) int {
	i := slices.IndexFunc(m, func(e api.Event) bool { return e.Number == order.Number })
	return m[:i].price(order.Names[1])
}

// ended reports whether an event of a kind has ended an order or an outage in an hour.
func (m model) ended(kind, name string, hour int) bool {
	end, is := m.one(kind, name)
	return is && end.Values[0] <= hour
}

// counts reports whether an hour of an order counts.
func (m model) counts(order api.Event, hour int) bool {
	return hour >= order.Values[1] && hour < order.Values[2] && !m.ended("trip", order.Names[0], hour)
}

// isOut reports whether an outage has an hour.
func (m model) isOut(outage api.Event, hour int) bool {
	return hour >= outage.Values[1] && hour < outage.Values[2] && !m.ended("restore", outage.Names[0], hour)
}

// end returns the hour before which an outage ends.
func (m model) end(outage api.Event) int {
	end := outage.Values[1]
	for m.isOut(outage, end) {
		end++
	}
	return end
}

func (m model) load(station string, hour int) int {
	load := 0
	for _, order := range m.all("order", "") {
		if slices.Contains(order.Names[1:], station) && m.counts(order, hour) {
			load += order.Values[3]
		}
	}
	return load
}

func (m model) room(station string, hour int) int {
	limit, _ := m.one("station", station)
	capacities := []int{limit.Values[1]}
	for _, outage := range m.all("outage", "") {
		if outage.Names[1] == station && m.isOut(outage, hour) {
			capacities = append(capacities, outage.Values[3])
		}
	}
	return slices.Min(capacities) - m.load(station, hour)
}

// meter returns the meter of an hour of an order, and whether there is one.
func (m model) meter(order string, hour int) (api.Event, bool) {
	for _, e := range m.all("meter", order) {
		if e.Values[1] == hour {
			return e, true
		}
	}
	return api.Event{}, false
}

func (m model) missing(hour int) []books.Gap {
	var l []books.Gap
	for _, order := range m.all("order", "") {
		for h := order.Values[1]; h < order.Values[2]; h++ {
			if _, metered := m.meter(order.Names[0], h); h < hour && m.counts(order, h) && !metered {
				l = append(l, books.Gap{Order: order.Names[0], Hour: h})
			}
		}
	}
	return l
}

// open returns the permits that are open, in their order.
func (m model) open() []api.Event {
	return slices.DeleteFunc(m.all("permit", ""), func(e api.Event) bool { return m.is("return", e.Names[0]) })
}

func (m model) register() books.Register {
	r := books.Register{Tick: m.tick(), Settled: m.settled()}
	for _, e := range m.all("station", "") {
		r.Stations = append(r.Stations, books.Station{Name: e.Names[0], Limit: e.Values[1], Price: m.price(e.Names[0])})
	}
	for _, e := range m.all("order", "") {
		trip := -1
		if end, tripped := m.one("trip", e.Names[0]); tripped {
			trip = end.Values[0]
		}
		r.Orders = append(r.Orders, books.Order{Name: e.Names[0], From: e.Names[1], To: e.Names[2], Span: api.Span{From: e.Values[1], To: e.Values[2]}, Power: e.Values[3], Price: m.agreed(e), Trip: trip})
	}
	for _, e := range m.all("meter", "") {
		r.Meters = append(r.Meters, books.Meter{Order: e.Names[0], Hour: e.Values[1], Sent: e.Values[2], Got: e.Values[3]})
	}
	for _, e := range m.all("outage", "") {
		r.Outages = append(r.Outages, books.Outage{Name: e.Names[0], Station: e.Names[1], Span: api.Span{From: e.Values[1], To: m.end(e)}, Rest: e.Values[3]})
	}
	for _, e := range m.all("permit", "") {
		r.Permits = append(r.Permits, books.Permit{Name: e.Names[0], Outage: e.Names[1], Open: !m.is("return", e.Names[0])})
	}
	return r
}

// verdict returns the error with which an event, which has no error by itself and the
// next number, is not accepted.
func (m model) verdict(e api.Event) api.Errno {
	if e.Kind == "undo" {
		switch {
		case len(m) == 0:
			return api.ErrEmpty
		case m[len(m)-1].Kind == "settle":
			return api.ErrRule
		}
		return api.OK
	}
	if e.Values[0] < m.tick() {
		return api.ErrState
	}
	named := map[string][]string{"station": {"station"}, "price": {"station"}, "order": {"order", "station", "station"}, "meter": {"order"}, "trip": {"order"}, "outage": {"outage", "station"}, "restore": {"outage"}, "permit": {"permit", "outage"}, "return": {"permit"}}[e.Kind]
	for i, kind := range named {
		if (i > 0 || kind != e.Kind) && !m.is(kind, e.Names[i]) {
			return api.ErrUnknown
		}
	}
	if len(named) > 0 && named[0] == e.Kind && m.is(e.Kind, e.Names[0]) {
		return api.ErrTwice
	}
	for _, rule := range m.rules(e) {
		if rule.broken() {
			return rule.e
		}
	}
	return api.OK
}

// rule is an error with which an event is not accepted, and whether it applies.
type rule struct {
	e      api.Errno
	broken func() bool
}

// rules returns the rules of the kind of an event whose names are right.
func (m model) rules(e api.Event) []rule {
	v := e.Values
	badSpan := rule{api.ErrSpan, func() bool { return v[1] < v[0] || v[1] >= v[2] || v[2]-v[1] > 48 }}
	many := func(limit int) rule {
		return rule{api.ErrMany, func() bool { return len(m.all(e.Kind, "")) >= limit }}
	}
	switch e.Kind {
	case "station":
		return []rule{{api.ErrRange, func() bool { return v[1] < 1 || v[1] > 1000 }}, many(6)}
	case "price":
		return []rule{{api.ErrRange, func() bool { return v[1] > 1000 }}}
	case "order":
		return []rule{{api.ErrConflict, func() bool { return e.Names[1] == e.Names[2] }}, badSpan, {api.ErrRange, func() bool { return v[3] < 1 || v[3] > 1000 }}, {api.ErrLarge, func() bool { return m.isFull(e) }}, many(32)}
	case "meter":
		order, _ := m.one("order", e.Names[0])
		_, metered := m.meter(e.Names[0], v[1])
		return []rule{{api.ErrOrder, func() bool { return v[1] >= v[0] }}, {api.ErrSpan, func() bool { return v[1] < order.Values[1] || v[1] >= order.Values[2] }}, {api.ErrOver, func() bool { return !m.counts(order, v[1]) }}, {api.ErrTwice, func() bool { return metered }}, {api.ErrRange, func() bool { return v[2] > order.Values[3] || v[3] > v[2] }}}
	case "trip":
		order, _ := m.one("order", e.Names[0])
		return []rule{{api.ErrOver, func() bool { return m.is("trip", e.Names[0]) || order.Values[2] <= v[0] }}}
	case "outage":
		station, _ := m.one("station", e.Names[1])
		return []rule{badSpan, {api.ErrRange, func() bool { return v[3] >= station.Values[1] }}, {api.ErrConflict, func() bool { return m.isLoaded(e) }}, many(16)}
	case "restore":
		outage, _ := m.one("outage", e.Names[0])
		works := func(p api.Event) bool { return p.Names[1] == e.Names[0] }
		return []rule{{api.ErrRule, func() bool { return outage.Values[1] >= v[0] }}, {api.ErrOver, func() bool { return m.end(outage) <= v[0] }}, {api.ErrOpen, func() bool { return slices.ContainsFunc(m.open(), works) }}}
	case "permit":
		outage, _ := m.one("outage", e.Names[1])
		return []rule{{api.ErrState, func() bool { return !m.isOut(outage, v[0]) }}, many(16)}
	case "return":
		return []rule{{api.ErrOver, func() bool { return m.is("return", e.Names[0]) }}}
	}
	ends := func(p api.Event) bool {
		outage, _ := m.one("outage", p.Names[1])
		return m.end(outage) <= v[1]
	}
	return []rule{{api.ErrSpan, func() bool { return v[1] <= m.settled() || v[1] > v[0] }}, {api.ErrOpen, func() bool { return len(m.missing(v[1])) > 0 || slices.ContainsFunc(m.open(), ends) }}}
}

// isFull reports whether one of the stations of a new order has no room for it.
func (m model) isFull(order api.Event) bool {
	full := false
	for h := order.Values[1]; h < order.Values[2]; h++ {
		full = full || min(m.room(order.Names[1], h), m.room(order.Names[2], h)) < order.Values[3]
	}
	return full
}

// isLoaded reports whether the load of a station is above the rest of a new outage.
func (m model) isLoaded(outage api.Event) bool {
	loaded := false
	for h := outage.Values[1]; h < outage.Values[2]; h++ {
		loaded = loaded || m.load(outage.Names[1], h) > outage.Values[3]
	}
	return loaded
}

// settledHours calls a function with each settled hour of each order.
func (m model) settledHours(f func(order api.Event, hour, sent, got int)) {
	for _, order := range m.all("order", "") {
		for h := range m.settled() {
			if m.counts(order, h) {
				meter, metered := m.meter(order.Names[0], h)
				if !metered {
					panic("a settled hour has no meter")
				}
				f(order, h, meter.Values[2], meter.Values[3])
			}
		}
	}
}

func (m model) bills() []books.Bill {
	var l []books.Bill
	for _, order := range m.all("order", "") {
		l = append(l, books.Bill{Order: order.Names[0]})
	}
	m.settledHours(func(order api.Event, _, sent, got int) {
		b := &l[slices.IndexFunc(l, func(b books.Bill) bool { return b.Order == order.Names[0] })]
		b.Hours++
		b.Sent += sent
		b.Got += got
		b.Money += got * m.agreed(order)
		b.Fine += 3 * (order.Values[3] - got)
	})
	return l
}

// account returns what is owed for orders from a to b, less that for those from b to a.
func (m model) account(a, b string) int {
	sum := 0
	m.settledHours(func(order api.Event, _, _, got int) {
		due := got*m.agreed(order) - 3*(order.Values[3]-got)
		if order.Names[1] == a && order.Names[2] == b {
			sum += due
		}
		if order.Names[1] == b && order.Names[2] == a {
			sum -= due
		}
	})
	return sum
}

// balance returns what is owed to a station, less what it owes.
func (m model) balance(station string) int {
	sum := 0
	m.settledHours(func(order api.Event, _, _, got int) {
		due := got*m.agreed(order) - 3*(order.Values[3]-got)
		switch station {
		case order.Names[1]:
			sum += due
		case order.Names[2]:
			sum -= due
		}
	})
	return sum
}

// hour returns what a settled hour has.
func (m model) hour(hour int) [3]int {
	var sums [3]int
	m.settledHours(func(order api.Event, h, sent, got int) {
		if h == hour {
			sums[0] += sent
			sums[1] += got
			sums[2] += got*m.agreed(order) - 3*(order.Values[3]-got)
		}
	})
	return sums
}

// sent returns what was sent, and what came, in all settled hours.
func (m model) sent() (int, int) {
	sum, came := 0, 0
	m.settledHours(func(_ api.Event, _, sent, got int) {
		sum += sent
		came += got
	})
	return sum, came
}

// available returns the number of settled hours in which no outage of a station is.
func (m model) available(station string) int {
	n := 0
	for h := range m.settled() {
		if !slices.ContainsFunc(m.all("outage", ""), func(x api.Event) bool { return x.Names[1] == station && m.isOut(x, h) }) {
			n++
		}
	}
	return n
}

// story returns the story of a station.
func (m model) story(station string) []api.Event {
	var l []api.Event
	for _, e := range m {
		if m.isAbout(e, station) {
			e.Number = len(l) + 1
			l = append(l, e)
		}
	}
	return l
}

// isAbout reports whether an event is about a station.
func (m model) isAbout(e api.Event, station string) bool {
	switch e.Kind {
	case "station", "price":
		return true
	case "order":
		return slices.Contains(e.Names[1:], station)
	case "outage":
		return e.Names[1] == station
	case "settle":
		return false
	}
	of := map[string]string{"meter": "order", "trip": "order", "restore": "outage", "permit": "outage", "return": "permit"}[e.Kind]
	other, _ := m.one(of, e.Names[len(e.Names)-1])
	return m.isAbout(other, station)
}
