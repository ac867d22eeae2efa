package books

import (
	"bipole/api"
	"bipole/check"
	"bipole/phasor"
	"bipole/text"
)

// The kinds of events that are not like the others: an undo takes back the last event that
// counts, which is never a settle.
const (
	undoKind   = "undo"
	settleKind = "settle"
)

// kind is what an event of a kind consists of, with which error it is not accepted, and
// what it makes of a register.
type kind struct {
	names  []thing // what its Names name
	fresh  int     // how many of them, the first ones, are new
	values int
	check  func(r Register, e api.Event) api.Errno
	change func(r Register, e api.Event) Register
}

// kinds is the kinds of events by their words.
type kinds map[string]kind

// allKinds returns the kinds of all events. An undo changes no register: it leaves the
// one that was before.
func allKinds() kinds {
	station, order := thingOf(Register.station, Station.isAbout), thingOf(Register.order, Order.isAbout)
	outage, permit := thingOf(Register.outage, Outage.isAbout), thingOf(Register.permit, Permit.isAbout)
	return kinds{
		"station":  {names: []thing{station}, fresh: 1, values: 2, check: checkStation, change: addStation},
		"price":    {names: []thing{station}, values: 2, check: checkPrice, change: changePrice},
		"order":    {names: []thing{order, station, station}, fresh: 1, values: 4, check: checkOrder, change: addOrder},
		"meter":    {names: []thing{order}, values: 4, check: checkMeter, change: addMeter},
		"trip":     {names: []thing{order}, values: 1, check: checkTrip, change: endOrder},
		"outage":   {names: []thing{outage, station}, fresh: 1, values: 4, check: checkOutage, change: addOutage},
		"restore":  {names: []thing{outage}, values: 1, check: checkRestore, change: endOutage},
		"permit":   {names: []thing{permit, outage}, fresh: 1, values: 1, check: checkPermit, change: addPermit},
		"return":   {names: []thing{permit}, values: 1, check: checkReturn, change: endPermit},
		settleKind: {values: 2, check: checkSettle, change: settle},
		undoKind:   {},
	}
}

// thing is what a name names: whether a register has one with this name, and whether
// that one is about a station.
type thing struct {
	known func(r Register, name string) bool
	about func(r Register, name, station string) bool
}

// thingOf returns the thing that is found in a register by its name.
func thingOf[T any](found func(r Register, name string) (T, bool), isAbout func(x T, r Register, station string) bool) thing {
	return thing{
		known: func(r Register, name string) bool {
			_, known := found(r, name)
			return known
		},
		about: func(r Register, name, station string) bool {
			x, _ := found(r, name)
			return isAbout(x, r, station)
		},
	}
}

// isAbout always holds, as the orders of a station need the other stations and their
// prices, too.
func (x Station) isAbout(Register, string) bool {
	return true
}

func (x Order) isAbout(_ Register, station string) bool {
	return x.From == station || x.To == station
}

func (x Outage) isAbout(_ Register, station string) bool {
	return x.Station == station
}

func (x Permit) isAbout(r Register, station string) bool {
	outage, _ := r.outage(x.Outage)
	return outage.isAbout(r, station)
}

// CheckEvent returns the first error of an event by itself, or OK.
func CheckEvent(e api.Event) api.Errno {
	return allKinds().check(e)
}

// check returns the first error of an event by itself, or OK.
func (all kinds) check(e api.Event) api.Errno {
	k, known := all[e.Kind]
	return check.First(
		check.Range(e.Number, 1, api.MaxEvents),
		check.That(known, api.ErrKind),
		check.That(len(e.Names) == len(k.names) && len(e.Values) == k.values, api.ErrShape),
		check.Each(e.Names, checkName),
		check.Each(e.Values, checkValue),
		check.That(e.Text == "", api.ErrForm))
}

func checkName(name string) api.Errno {
	return check.That(phasor.IsName(name), api.ErrName)
}

func checkValue(n int) api.Errno {
	return check.Range(n, 0, api.MaxNumber)
}

// checkNames returns ErrUnknown if a name of an event that is not new is none in a
// register, and ErrTwice if a new one is there.
func (k kind) checkNames(r Register, names []string) api.Errno {
	if e := checkKnown(r, k.names[k.fresh:], names[k.fresh:]); e != api.OK {
		return e
	}
	for i, t := range k.names[:k.fresh] {
		if t.known(r, names[i]) {
			return api.ErrTwice
		}
	}
	return api.OK
}

// checkKnown returns ErrUnknown if a register does not have the things with some names.
func checkKnown(r Register, things []thing, names []string) api.Errno {
	for i, t := range things {
		if !t.known(r, names[i]) {
			return api.ErrUnknown
		}
	}
	return api.OK
}

// isAbout reports whether an event belongs to the story of a station.
func (k kind) isAbout(r Register, e api.Event, station string) bool {
	return len(k.names) > 0 && k.names[0].about(r, e.Names[0], station)
}

// words takes the Names and the Values of an event from a line.
func (k kind) words(line *text.Line) ([]string, []int) {
	names := namesIn(line, len(k.names))
	values := make([]int, k.values)
	for i := range values {
		values[i] = line.Number()
	}
	return names, values
}

// namesIn takes names from a line.
func namesIn(line *text.Line, number int) []string {
	word := line.Word
	names := make([]string, number)
	for i := range names {
		names[i] = word()
	}
	return names
}
