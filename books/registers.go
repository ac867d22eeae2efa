package books

import (
	"iter"
	"slices"

	"bipole/api"
	"bipole/list"
)

// untripped is the trip of an order that has none.
const untripped = -1

func (x Station) name() string {
	return x.Name
}

func (x Order) name() string {
	return x.Name
}

func (x Outage) name() string {
	return x.Name
}

func (x Permit) name() string {
	return x.Name
}

func (x Permit) isOpen() bool {
	return x.Open
}

// gap returns the hour of an order that has a meter.
func (x Meter) gap() Gap {
	return Gap{Order: x.Order, Hour: x.Hour}
}

// named returns the element of a list with a name, and whether there is one.
func named[T any](l []T, name func(T) string, of string) (T, bool) {
	for _, x := range l {
		if name(x) == of {
			return x, true
		}
	}
	return *new(T), false
}

func (r Register) station(name string) (Station, bool) {
	return named(r.Stations, Station.name, name)
}

func (r Register) order(name string) (Order, bool) {
	return named(r.Orders, Order.name, name)
}

func (r Register) outage(name string) (Outage, bool) {
	return named(r.Outages, Outage.name, name)
}

func (r Register) permit(name string) (Permit, bool) {
	return named(r.Permits, Permit.name, name)
}

// openPermits returns the permits that are not given back.
func (r Register) openPermits() []Permit {
	return list.Filtered(r.Permits, Permit.isOpen)
}

// added returns a list with one more element, in memory of its own.
func added[T any](l []T, x T) []T {
	return append(slices.Clone(l), x)
}

// changed returns a list, in memory of its own, in which the element with a name is
// changed.
func changed[T any](l []T, name func(T) string, of string, change func(x *T)) []T {
	after := slices.Clone(l)
	for i, x := range l {
		if name(x) == of {
			change(&after[i])
		}
	}
	return after
}

// has reports whether an hour is in a span.
func has(s api.Span, hour int) bool {
	return s.From <= hour && hour < s.To
}

// until returns the part of a span that is before an hour; it may have no hours.
func until(s api.Span, hour int) api.Span {
	return api.Span{From: s.From, To: min(s.To, hour)}
}

// hours visits the hours of a span, ascending.
func hours(s api.Span) iter.Seq[int] {
	return func(yield func(int) bool) {
		for i := range s.To - s.From {
			if !yield(s.From + i) {
				return
			}
		}
	}
}

// counted returns the span of the hours of an order that count.
func (x Order) counted() api.Span {
	if x.Trip == untripped {
		return x.Span
	}
	return until(x.Span, x.Trip)
}

// capacity returns the capacity of a station in an hour.
func (r Register) capacity(station string, hour int) int {
	x, _ := r.station(station)
	capacity := x.Limit
	for _, outage := range r.Outages {
		if outage.Station == station && has(outage.Span, hour) {
			capacity = min(capacity, outage.Rest)
		}
	}
	return capacity
}

// load returns the load of a station in an hour.
func (r Register) load(station string, hour int) int {
	load := 0
	for _, x := range r.Orders {
		if (x.From == station || x.To == station) && has(x.counted(), hour) {
			load += x.Power
		}
	}
	return load
}

// room returns the room of a station in an hour.
func (r Register) room(station string, hour int) int {
	return r.capacity(station, hour) - r.load(station, hour)
}

// missing visits the hours of orders that are missing up to an hour, order by order.
func (r Register) missing(hour int) iter.Seq[Gap] {
	metered := list.Indices(r.Meters, Meter.gap)
	return func(yield func(Gap) bool) {
		for _, x := range r.Orders {
			for due := range hours(until(x.counted(), hour)) {
				gap := Gap{Order: x.Name, Hour: due}
				if _, known := metered[gap]; !known && !yield(gap) {
					return
				}
			}
		}
	}
}
