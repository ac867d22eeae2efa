package books

import (
	"slices"

	"bipole/api"
	"bipole/check"
	"bipole/list"
	"bipole/whole"
)

// registerOf returns the register after some events, or the error of Replay.
func registerOf(l []api.Event) (Register, api.Errno) {
	r, _, bad := Replay(l)
	return r, bad
}

// checkStation returns ErrUnknown for a name of no station of a register.
func (r Register) checkStation(name string) api.Errno {
	_, known := r.station(name)
	return check.That(known, api.ErrUnknown)
}

// Room returns the room of a station in an hour.
func Room(l []api.Event, station string, hour int) (int, api.Errno) {
	r, bad := registerOf(l)
	if bad := check.First(bad, r.checkStation(station), checkValue(hour)); bad != api.OK {
		return 0, bad
	}
	return r.room(station, hour), api.OK
}

// Missing returns the hours of orders that are missing up to an hour.
func Missing(l []api.Event, hour int) ([]Gap, api.Errno) {
	r, bad := registerOf(l)
	if bad := check.First(bad, checkValue(hour)); bad != api.OK {
		return nil, bad
	}
	gaps := slices.Collect(r.missing(hour))
	if len(gaps) > api.MaxList {
		return nil, api.ErrMany
	}
	return gaps, api.OK
}

// settled returns the span of the hours that are settled.
func (r Register) settled() api.Span {
	return api.Span{To: r.Settled}
}

// bill returns the bill of an order about its settled hours that are in a span. Each of
// them has a meter, and no other hour before the settled ones has.
func (r Register) bill(x Order, within api.Span) Bill {
	b := Bill{Order: x.Name}
	for _, m := range r.Meters {
		if m.Order == x.Name && has(r.settled(), m.Hour) && has(within, m.Hour) {
			b.Hours++
			b.Sent += m.Sent
			b.Got += m.Got
		}
	}
	b.Money = b.Got * x.Price
	b.Fine = Fine * (b.Hours*x.Power - b.Got)
	return b
}

// due returns what a bill comes to: the money less the fine.
func (b Bill) due() int {
	return b.Money - b.Fine
}

// bills returns the bills of all orders.
func (r Register) bills() []Bill {
	return list.Mapped(r.Orders, func(x Order) Bill { return r.bill(x, r.settled()) })
}

// sums returns what was sent, what came, and the money less the fine, of the settled
// hours of all orders that are in a span.
func (r Register) sums(within api.Span) [3]int {
	var sums [3]int
	for _, x := range r.Orders {
		b := r.bill(x, within)
		for i, n := range [3]int{b.Sent, b.Got, b.due()} {
			sums[i] += n
		}
	}
	return sums
}

// Bills returns the bills of all orders.
func Bills(l []api.Event) ([]Bill, api.Errno) {
	r, bad := registerOf(l)
	return r.bills(), bad
}

// dues returns what the orders from one station to another one come to, by both.
func (r Register) dues() map[[2]string]int {
	dues := map[[2]string]int{}
	for _, x := range r.Orders {
		dues[[2]string{x.From, x.To}] += r.bill(x, r.settled()).due()
	}
	return dues
}

// account returns the account of two stations.
func (r Register) account(a, b string) int {
	dues := r.dues()
	return dues[[2]string{a, b}] - dues[[2]string{b, a}]
}

// balance returns the balance of a station.
func (r Register) balance(station string) int {
	balance := 0
	for _, other := range r.Stations {
		balance += r.account(station, other.Name)
	}
	return balance
}

// Account returns the account of two stations.
func Account(l []api.Event, a, b string) (int, api.Errno) {
	r, bad := registerOf(l)
	if bad := check.First(bad, r.checkStation(a), r.checkStation(b), check.That(a != b, api.ErrConflict)); bad != api.OK {
		return 0, bad
	}
	return r.account(a, b), api.OK
}

// Balance returns the balance of a station.
func Balance(l []api.Event, station string) (int, api.Errno) {
	r, bad := registerOf(l)
	if bad := check.First(bad, r.checkStation(station)); bad != api.OK {
		return 0, bad
	}
	return r.balance(station), api.OK
}

// Hour returns what a settled hour has.
func Hour(l []api.Event, hour int) ([3]int, api.Errno) {
	r, bad := registerOf(l)
	if bad := check.First(bad, checkValue(hour), check.That(hour < r.Settled, api.ErrState)); bad != api.OK {
		return [3]int{}, bad
	}
	return r.sums(api.Span{From: hour, To: hour + 1}), api.OK
}

// Losses returns the share that was sent and did not come.
func Losses(l []api.Event) (api.Ratio, api.Errno) {
	r, bad := registerOf(l)
	sums := r.sums(r.settled())
	sent, got := sums[0], sums[1]
	// Where nothing was sent nothing came, either.
	if bad := check.First(bad, check.That([2]int{sent, got} != [2]int{}, api.ErrZero)); bad != api.OK {
		return api.Ratio{}, bad
	}
	return whole.Lowest(sent-got, sent), api.OK
}

// Availability returns the availability of a station.
func Availability(l []api.Event, station string) (api.Ratio, api.Errno) {
	r, bad := registerOf(l)
	if bad := check.First(bad, r.checkStation(station), check.That(r.Settled > 0, api.ErrZero)); bad != api.OK {
		return api.Ratio{}, bad
	}
	return whole.Lowest(r.Settled-r.out(station), r.Settled), api.OK
}

// out returns the number of the settled hours in which a station has an outage.
func (r Register) out(station string) int {
	out := map[int]bool{}
	for _, x := range r.Outages {
		if x.Station == station {
			for hour := range hours(until(x.Span, r.Settled)) {
				out[hour] = true
			}
		}
	}
	return len(out)
}
