package books

import (
	"slices"

	"bipole/api"
	"bipole/check"
)

// checkStation returns the error with which a register does not accept a station.
func checkStation(r Register, e api.Event) api.Errno {
	return check.First(
		check.Range(stationOf(e).Limit, 1, MaxPower),
		check.That(len(r.Stations) < MaxStations, api.ErrMany))
}

// checkPrice returns the error with which a register does not accept a price.
func checkPrice(_ Register, e api.Event) api.Errno {
	return check.Range(e.Values[1], 0, MaxPrice)
}

// checkOrder returns the error with which a register does not accept an order.
func checkOrder(r Register, e api.Event) api.Errno {
	x := r.orderOf(e)
	bad := check.First(
		check.That(x.From != x.To, api.ErrConflict),
		checkSpan(x.Span, tickOf(e)),
		check.Range(x.Power, 1, MaxPower))
	if bad != api.OK {
		return bad
	}
	return check.First(
		check.That(r.fits(x), api.ErrLarge),
		check.That(len(r.Orders) < MaxOrders, api.ErrMany))
}

// checkSpan returns ErrSpan for a span that begins before a tick, or that does not have
// from 1 to MaxHours hours.
func checkSpan(s api.Span, tick int) api.Errno {
	possible := api.Span{From: max(s.From, tick), To: min(s.To, s.From+MaxHours)}
	return check.That(s == possible && s.From < s.To, api.ErrSpan)
}

// fits reports whether both stations of an order have room for it in all of its hours.
func (r Register) fits(x Order) bool {
	fits := true
search:
	for hour := range hours(x.Span) {
		for _, station := range [2]string{x.From, x.To} {
			if r.room(station, hour) < x.Power {
				fits = false
				break search
			}
		}
	}
	return fits
}

// checkMeter returns the error with which a register does not accept a meter.
func checkMeter(r Register, e api.Event) api.Errno {
	m := meterOf(e)
	x, _ := r.order(m.Order)
	return check.First(
		check.That(m.Hour < tickOf(e), api.ErrOrder),
		check.That(has(x.Span, m.Hour), api.ErrSpan),
		check.That(has(x.counted(), m.Hour), api.ErrOver),
		check.Once(r.Meters, m, Meter.gap),
		check.That(m.Got <= m.Sent && m.Sent <= x.Power, api.ErrRange))
}

// checkTrip returns the error with which a register does not accept a trip.
func checkTrip(r Register, e api.Event) api.Errno {
	x, _ := r.order(e.Names[0])
	return check.That(x.Trip == untripped && tickOf(e) < x.Span.To, api.ErrOver)
}

// checkOutage returns the error with which a register does not accept an outage.
func checkOutage(r Register, e api.Event) api.Errno {
	x := outageOf(e)
	station, _ := r.station(x.Station)
	bad := check.First(
		checkSpan(x.Span, tickOf(e)),
		check.That(x.Rest < station.Limit, api.ErrRange))
	if bad != api.OK {
		return bad
	}
	return check.First(
		check.That(r.bears(x), api.ErrConflict),
		check.That(len(r.Outages) < MaxOutages, api.ErrMany))
}

// bears reports whether the load of a station is not above the rest of an outage in all
// of its hours.
func (r Register) bears(x Outage) bool {
	for hour := range hours(x.Span) {
		if r.load(x.Station, hour) > x.Rest {
			return false
		}
	}
	return true
}

// checkRestore returns the error with which a register does not accept a restore.
func checkRestore(r Register, e api.Event) api.Errno {
	x, _ := r.outage(e.Names[0])
	works := slices.ContainsFunc(r.openPermits(), func(p Permit) bool { return p.Outage == x.Name })
	return check.First(
		check.That(x.Span.From < tickOf(e), api.ErrRule),
		check.That(tickOf(e) < x.Span.To, api.ErrOver),
		check.That(!works, api.ErrOpen))
}

// checkPermit returns the error with which a register does not accept a permit.
func checkPermit(r Register, e api.Event) api.Errno {
	x, _ := r.outage(permitOf(e).Outage)
	return check.First(
		check.That(has(x.Span, tickOf(e)), api.ErrState),
		check.That(len(r.Permits) < MaxPermits, api.ErrMany))
}

// checkReturn returns the error with which a register does not accept a return.
func checkReturn(r Register, e api.Event) api.Errno {
	x, _ := r.permit(e.Names[0])
	return check.That(x.Open, api.ErrOver)
}

// checkSettle returns the error with which a register does not accept a settle.
func checkSettle(r Register, e api.Event) api.Errno {
	hour := e.Values[1]
	return check.First(
		check.That(r.Settled < hour && hour <= tickOf(e), api.ErrSpan),
		check.That(r.isClosed(hour), api.ErrOpen))
}

// isClosed reports whether no hour is missing up to one, and no permit is open of an
// outage that is over by then.
func (r Register) isClosed(hour int) bool {
	for range r.missing(hour) {
		return false
	}
	for _, p := range r.openPermits() {
		if x, _ := r.outage(p.Outage); x.Span.To <= hour {
			return false
		}
	}
	return true
}
