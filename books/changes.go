package books

import "bipole/api"

// tickOf returns the tick of an event that is no undo.
func tickOf(e api.Event) int {
	return e.Values[0]
}

// stationOf returns the station that an event adds.
func stationOf(e api.Event) Station {
	return Station{Name: e.Names[0], Limit: e.Values[1]}
}

// orderOf returns the order that an event adds to a register.
func (r Register) orderOf(e api.Event) Order {
	from, _ := r.station(e.Names[1])
	return Order{
		Name:  e.Names[0],
		From:  e.Names[1],
		To:    e.Names[2],
		Span:  spanOf(e),
		Power: e.Values[3],
		Price: from.Price,
		Trip:  untripped,
	}
}

// meterOf returns the meter that an event adds.
func meterOf(e api.Event) Meter {
	return Meter{Order: e.Names[0], Hour: e.Values[1], Sent: e.Values[2], Got: e.Values[3]}
}

// outageOf returns the outage that an event adds.
func outageOf(e api.Event) Outage {
	return Outage{Name: e.Names[0], Station: e.Names[1], Span: spanOf(e), Rest: e.Values[3]}
}

// permitOf returns the permit that an event adds.
func permitOf(e api.Event) Permit {
	return Permit{Name: e.Names[0], Outage: e.Names[1], Open: true}
}

// spanOf returns the span of an event that adds an order or an outage.
func spanOf(e api.Event) api.Span {
	return api.Span{From: e.Values[1], To: e.Values[2]}
}

func addStation(r Register, e api.Event) Register {
	r.Stations = added(r.Stations, stationOf(e))
	return r
}

func changePrice(r Register, e api.Event) Register {
	r.Stations = changed(r.Stations, Station.name, e.Names[0], func(x *Station) { x.Price = e.Values[1] })
	return r
}

func addOrder(r Register, e api.Event) Register {
	r.Orders = added(r.Orders, r.orderOf(e))
	return r
}

func addMeter(r Register, e api.Event) Register {
	r.Meters = added(r.Meters, meterOf(e))
	return r
}

func endOrder(r Register, e api.Event) Register {
	r.Orders = changed(r.Orders, Order.name, e.Names[0], func(x *Order) { x.Trip = tickOf(e) })
	return r
}

func addOutage(r Register, e api.Event) Register {
	r.Outages = added(r.Outages, outageOf(e))
	return r
}

func endOutage(r Register, e api.Event) Register {
	r.Outages = changed(r.Outages, Outage.name, e.Names[0], func(x *Outage) { x.Span = until(x.Span, tickOf(e)) })
	return r
}

func addPermit(r Register, e api.Event) Register {
	r.Permits = added(r.Permits, permitOf(e))
	return r
}

func endPermit(r Register, e api.Event) Register {
	r.Permits = changed(r.Permits, Permit.name, e.Names[0], func(x *Permit) { x.Open = false })
	return r
}

func settle(r Register, e api.Event) Register {
	r.Settled = e.Values[1]
	return r
}
