package books_test

import (
	"fmt"
	"math/rand"
	"slices"
	"testing"

	"bipole/api"
	"bipole/books"
)

// P10.1: events of all kinds have no error by themselves.
func TestCheckEvent(t *testing.T) {
	for _, line := range examples {
		for _, number := range []int{1, 2, 999, 1000} {
			e := event(number, line)
			is(t, line, books.CheckEvent(e), api.OK)
			for i := range e.Values {
				for _, n := range []int{0, 1, 999999998, 999999999} {
					e.Values[i] = n
					is(t, fmt.Sprint(e), books.CheckEvent(e), api.OK)
				}
			}
			for i := range e.Names {
				for _, name := range []string{"A", "z_9", "undo", "abcdefghijklmnopqrstuvwx"} {
					e.Names[i] = name
					is(t, fmt.Sprint(e), books.CheckEvent(e), api.OK)
				}
			}
		}
	}
}

// P10.1: the first error of an event decides, in the order of the chapter.
func TestCheckEventErrors(t *testing.T) {
	for _, line := range examples {
		for _, number := range append(beyond(1, 1000), 0) {
			for _, e := range []api.Event{event(number, line), {Number: number}, {Number: number, Kind: "undo", Names: badNames, Values: []int{-1}, Text: "x"}} {
				is(t, fmt.Sprint(e), books.CheckEvent(e), api.ErrRange)
			}
		}
		for _, kind := range []string{"", "none", "Undo", "undo ", "stations", "balance", "meter 1", "\x00"} {
			e := event(1, line)
			e.Kind = kind
			is(t, fmt.Sprint(e), books.CheckEvent(e), api.ErrKind)
			is(t, kind, books.CheckEvent(api.Event{Number: 1, Kind: kind, Names: badNames, Values: []int{-1}, Text: "x"}), api.ErrKind)
		}
		for _, names := range [][]string{{"n"}, {"1"}, {"n", "n", "n", "n"}} {
			for _, values := range [][]int{nil, {-1}} {
				e := event(1, line)
				e.Names, e.Values, e.Text = append(e.Names, names...), append(e.Values, values...), "x"
				is(t, fmt.Sprint(e), books.CheckEvent(e), api.ErrShape)
			}
		}
		for range 1 + len(event(1, line).Names) {
			e := event(1, line)
			e.Values = append(e.Values, 0)
			is(t, fmt.Sprint(e), books.CheckEvent(e), api.ErrShape)
		}
		if e := event(1, line); len(e.Names) > 0 {
			e.Names = e.Names[1:]
			is(t, fmt.Sprint(e), books.CheckEvent(e), api.ErrShape)
		}
		if e := event(1, line); len(e.Values) > 0 {
			e.Values = e.Values[1:]
			is(t, fmt.Sprint(e), books.CheckEvent(e), api.ErrShape)
		}
	}
}

// P10.1: names, values and texts are asked for in this order.
func TestCheckEventParts(t *testing.T) {
	for _, line := range examples {
		for i := range event(1, line).Names {
			for _, name := range badNames {
				e := event(1, line)
				e.Names[i] = name
				is(t, fmt.Sprint(e), books.CheckEvent(e), api.ErrName)
				e.Values[0], e.Text = -1, "x"
				is(t, fmt.Sprint(e), books.CheckEvent(e), api.ErrName)
			}
		}
		for i := range event(1, line).Values {
			for _, n := range beyond(0, 999999999) {
				e := event(1, line)
				e.Values[i] = n
				is(t, fmt.Sprint(e), books.CheckEvent(e), api.ErrRange)
				e.Text = "x"
				is(t, fmt.Sprint(e), books.CheckEvent(e), api.ErrRange)
			}
		}
		for _, text := range []string{"x", " ", "\x00", "a text"} {
			e := event(1, line)
			e.Text = text
			is(t, fmt.Sprint(e), books.CheckEvent(e), api.ErrForm)
		}
	}
}

// isReplay fails a test if the register after events is not the expected one.
func isReplay(t *testing.T, what string, l []api.Event, want books.Register) {
	t.Helper()
	r, at, e := books.Replay(l)
	isRegister(t, what, r, want)
	is(t, what, at, 0)
	is(t, what, e, api.OK)
}

// P10.1: the register after the events of the chapter's examples.
func TestReplay(t *testing.T) {
	isReplay(t, "nothing", nil, books.Register{})
	isReplay(t, "the examples", shown(10), shownRegister())
	want := shownRegister()
	want.Tick, want.Settled = 8, 8
	want.Outages[0].Span.To = 6
	want.Permits[0].Open = false
	isReplay(t, "all of the examples", shown(13), want)
}

// P10.1: what an event does.
func TestEffects(t *testing.T) {
	for _, x := range []struct {
		lines  []string
		change func(r *books.Register)
	}{
		{[]string{"station c 5 3"}, func(r *books.Register) {
			r.Stations = append(r.Stations, books.Station{Name: "c", Limit: 3})
		}},
		{[]string{"price b 9 8"}, func(r *books.Register) { r.Tick, r.Stations[1].Price = 9, 8 }},
		{[]string{"price a 9 0", "order o2 a b 9 9 10 1"}, func(r *books.Register) {
			r.Tick, r.Stations[0].Price = 9, 0
			r.Orders = append(r.Orders, books.Order{Name: "o2", From: "a", To: "b", Span: api.Span{From: 9, To: 10}, Power: 1, Trip: -1})
		}},
		{[]string{"price b 5 4", "order o2 a b 5 9 57 2", "order o3 b a 6 7 8 3", "price a 6 1", "trip o2 8"}, func(r *books.Register) {
			r.Tick, r.Stations[0].Price, r.Stations[1].Price = 8, 1, 4
			r.Orders = append(r.Orders, books.Order{Name: "o2", From: "a", To: "b", Span: api.Span{From: 9, To: 57}, Power: 2, Price: 5, Trip: 8}, books.Order{Name: "o3", From: "b", To: "a", Span: api.Span{From: 7, To: 8}, Power: 3, Price: 4, Trip: -1})
		}},
		{[]string{"outage y a 6 6 8 9", "permit q y 6", "permit r x 6", "return q 6", "restore y 7"}, func(r *books.Register) {
			r.Tick = 7
			r.Outages = append(r.Outages, books.Outage{Name: "y", Station: "a", Span: api.Span{From: 6, To: 7}, Rest: 9})
			r.Permits = append(r.Permits, books.Permit{Name: "q", Outage: "y"}, books.Permit{Name: "r", Outage: "x", Open: true})
		}},
		{[]string{"settle 9 6"}, func(r *books.Register) { r.Tick, r.Settled = 9, 6 }},
	} {
		want := shownRegister()
		x.change(&want)
		isReplay(t, fmt.Sprint(x.lines), after(shown(10), x.lines...), want)
	}
}

// P10.1: an undo leaves the register that was before, and an event may come again.
func TestUndo(t *testing.T) {
	for _, lines := range [][]string{
		{"undo"}, {"price a 9 3", "undo", "undo"}, {"undo", "meter o1 6 4 1 1", "undo"}, {"price a 9 3", "return p 9", "undo", "price b 9 3", "undo", "undo", "undo"},
	} {
		want := shownRegister()
		want.Settled, want.Meters = 0, want.Meters[:2]
		isReplay(t, fmt.Sprint(lines), after(shown(9), lines...), want)
	}
	undone := after(shown(6), "undo", "undo", "undo", "undo", "undo", "undo")
	isReplay(t, "nothing is left", undone, books.Register{})
	is(t, "one undo too many", books.Accepts(undone, event(13, "undo")), api.ErrEmpty)
	isReplay(t, "another station", after(undone, "station b 0 7"), books.Register{Stations: []books.Station{{Name: "b", Limit: 7}}})
	want := shownRegister()
	want.Tick, want.Settled = 1, 0
	want.Meters, want.Outages, want.Permits = nil, nil, nil
	isReplay(t, "an earlier tick", after(shown(5), "permit p x 6", "undo", "undo"), want)
	is(t, "the tick before", books.Accepts(after(shown(5), "permit p x 6", "undo", "undo"), event(9, "trip o1 1")), api.OK)
	is(t, "the tick of an undone event", books.Accepts(after(shown(5), "permit p x 6"), event(7, "trip o1 4")), api.ErrState)
}

// P10.1: the number of the first event that is wrong, or not accepted, and its error.
func TestReplayErrors(t *testing.T) {
	for want, lists := range badJournals() {
		for number, l := range lists {
			r, at, e := books.Replay(l)
			what := fmt.Sprint("event ", number, " of ", brief(l))
			isRegister(t, what, r, books.Register{})
			is(t, what, at, number)
			is(t, what, e, want)
		}
	}
	isReplay(t, "as many as may be", long(1000), books.Register{Stations: []books.Station{{Name: "a", Limit: 1000, Price: 999}}})
	_, at, e := books.Replay(after(long(1000), "none"))
	is(t, "too many", at, 0)
	is(t, "too many", e, api.ErrMany)
	_, at, e = books.Replay(make([]api.Event, 5000))
	is(t, "far too many", at, 0)
	is(t, "far too many", e, api.ErrMany)
}

// P10.1: the error of the events comes first, then that of the event, then their number.
func TestAcceptsOrder(t *testing.T) {
	bad := api.Event{Number: 5, Kind: "none"}
	eachBadJournal(func(l []api.Event, want api.Errno) {
		is(t, brief(l), books.Accepts(l, event(1, "undo")), want)
		is(t, brief(l), books.Accepts(l, bad), want)
	})
	full := long(1000)
	for _, x := range []struct {
		l    []api.Event
		e    api.Event
		want api.Errno
	}{
		{shown(6), bad, api.ErrKind}, {full, bad, api.ErrKind}, {full, event(1001, "undo"), api.ErrRange}, {full, event(1000, "undo"), api.ErrMany}, {full, event(1, "price none 0 1001"), api.ErrMany}, {full[:999], event(1000, "undo"), api.OK}, {full[:999], event(999, "undo"), api.ErrOrder}, {full[:999], event(1000, "price a 0 1001"), api.ErrRange},
		{shown(6), event(6, "return none 0"), api.ErrOrder}, {shown(6), event(8, "undo"), api.ErrOrder}, {nil, event(2, "undo"), api.ErrOrder}, {nil, event(1, "undo"), api.ErrEmpty}, {nil, event(1, "settle 0 0"), api.ErrSpan}, {nil, event(1, "settle 1 1"), api.OK}, {shown(6), api.Event{Number: 9, Kind: "trip", Names: []string{"o1"}, Values: []int{-1}}, api.ErrRange},
	} {
		is(t, fmt.Sprint(x.e, " after ", brief(x.l)), books.Accepts(x.l, x.e), x.want)
	}
}

// isAccepted fails a test if events are not accepted with the expected errors after
// others.
func isAccepted(t *testing.T, l []api.Event, errors map[api.Errno][]string) {
	t.Helper()
	for want, lines := range errors {
		for _, line := range lines {
			is(t, line+" after "+brief(l), books.Accepts(l, event(len(l)+1, line)), want)
		}
	}
}

// P10.1: the tick and the names are asked for before all else.
func TestAcceptsNames(t *testing.T) {
	isAccepted(t, shown(6), map[api.Errno][]string{
		api.ErrState:   {"station a 4 0", "price none 4 5", "order o1 none none 4 0 0 0", "meter none 4 0 0 0", "trip none 0", "outage x none 4 0 0 99", "restore none 4", "permit p none 4", "return none 4", "settle 4 0", "station c 4 5", "trip o1 4", "settle 4 9"},
		api.ErrUnknown: {"price none 5 1001", "price x 5 1", "price o1 5 1", "order o1 none a 5 0 0 0", "order o1 a none 5 0 0 0", "order o1 none none 5 0 0 0", "order o2 x a 5 6 7 1", "meter none 5 9 0 1", "meter a 5 2 1 1", "trip x 5", "trip none 5", "outage x none 5 0 0 99", "outage y o1 5 6 7 1", "restore p 5", "restore none 5", "permit p none 9", "permit q p 5", "permit q b 5", "return x 5", "return none 5"},
		api.ErrTwice:   {"station a 5 0", "station b 5 1001", "order o1 a a 5 0 0 0", "order o1 a b 9 9 10 1", "outage x a 5 0 0 99", "outage x b 8 8 9 1", "permit p x 9", "permit p x 5"},
		api.OK:         {"station x 5 1", "station o1 5 1", "station p 5 1", "order a a b 5 7 8 1", "order p a b 5 7 8 1", "outage a a 5 7 8 1", "outage p b 5 7 8 1", "outage o1 b 5 7 8 1", "permit x x 5", "permit a x 5"},
	})
}

// P10.1: stations and prices have ranges.
func TestAcceptsStations(t *testing.T) {
	isAccepted(t, shown(4), map[api.Errno][]string{
		api.ErrRange: {"station c 1 0", "station c 1 1001", "station c 1 999999999", "price a 1 1001", "price b 1 999999999"},
		api.OK:       {"station c 1 1", "station c 1 1000", "price a 1 0", "price b 999999999 1000"},
	})
	l := journal("station a 0 1", "station b 0 1", "station c 0 1", "station d 0 1", "station e 0 1")
	isAccepted(t, l, map[api.Errno][]string{api.OK: {"station f 0 1"}})
	isAccepted(t, after(l, "station f 0 1"), map[api.Errno][]string{api.ErrMany: {"station g 0 1"}, api.ErrRange: {"station g 0 0"}, api.ErrTwice: {"station f 0 1"}})
	isAccepted(t, after(l, "station f 0 1", "undo"), map[api.Errno][]string{api.OK: {"station g 0 1"}})
}

// P10.1: orders have other stations, a span and a power, and room in all of their hours.
func TestAcceptsOrders(t *testing.T) {
	isAccepted(t, shown(4), map[api.Errno][]string{
		api.ErrConflict: {"order o2 a a 1 2 5 3", "order o2 b b 1 0 0 0"},
		api.ErrSpan:     {"order o2 b a 1 0 5 0", "order o2 b a 2 1 5 99", "order o2 b a 1 5 5 0", "order o2 b a 1 6 5 1", "order o2 b a 1 5 54 99", "order o2 a b 1 1 50 2", "order o2 b a 1 0 999999999 1", "order o2 b a 1 999999999 0 1"},
		api.ErrRange:    {"order o2 b a 1 2 5 0", "order o2 b a 1 2 5 1001", "order o2 b a 1 2 5 999999999"},
		api.ErrLarge:    {"order o2 b a 1 2 5 3", "order o2 a b 1 2 5 3", "order o2 b a 1 4 5 3", "order o2 b a 1 1 3 3", "order o2 b a 1 4 52 3", "order o2 b a 1 5 53 9", "order o2 b a 1 5 6 1000"},
		api.OK:          {"order o2 b a 1 2 5 2", "order o2 a b 1 1 49 2", "order o2 b a 1 5 53 8", "order o2 b a 1 1 2 8", "order o2 b a 3 3 5 2", "order o2 b a 1 999999998 999999999 8"},
	})
	isAccepted(t, shown(5), map[api.Errno][]string{
		api.ErrLarge: {"order o2 b a 1 5 6 1", "order o2 a b 1 6 7 1", "order o2 a b 1 4 6 1", "order o2 a b 1 6 9 1"},
		api.OK:       {"order o2 b a 1 7 8 8", "order o2 b a 1 4 5 2"},
	})
	third := after(shown(4), "station c 1 20", "order o2 c a 1 3 4 4")
	isAccepted(t, third, map[api.Errno][]string{
		api.ErrLarge: {"order o3 b c 1 3 4 3", "order o3 a c 1 3 4 1", "order o3 c a 1 2 4 1"},
		api.OK:       {"order o3 b c 1 3 4 2", "order o3 a c 1 4 9 4", "order o3 c a 1 2 3 4"},
	})
	isAccepted(t, after(shown(4), "trip o1 3"), map[api.Errno][]string{
		api.ErrLarge: {"order o2 b a 3 3 5 9"},
		api.OK:       {"order o2 b a 3 3 5 8"},
	})
	isAccepted(t, after(shown(5), "restore x 6"), map[api.Errno][]string{api.OK: {"order o2 a b 6 6 7 8"}, api.ErrLarge: {"order o2 a b 6 6 7 9"}})
	isAccepted(t, crowded(31), map[api.Errno][]string{api.OK: {"order more a b 48 50 51 1000"}})
	isAccepted(t, crowded(32), map[api.Errno][]string{api.ErrMany: {"order more a b 48 50 51 1000"}, api.ErrRange: {"order more a b 48 50 51 1001"}, api.ErrTwice: {"order o31 a b 48 50 51 1"}})
	full := after(crowded(32), "station c 48 5")
	isAccepted(t, full, map[api.Errno][]string{api.ErrLarge: {"order more a c 48 50 51 6"}, api.ErrMany: {"order more a c 48 50 51 5"}})
}

// P10.1: a meter is of an hour that is over and counts, and has none yet.
func TestAcceptsMeters(t *testing.T) {
	tripped := after(shown(4), "trip o1 4", "meter o1 5 2 0 0")
	isAccepted(t, tripped, map[api.Errno][]string{
		api.ErrOrder: {"meter o1 5 5 9 9", "meter o1 6 6 1 1", "meter o1 5 999999999 1 1"},
		api.ErrSpan:  {"meter o1 5 1 9 9", "meter o1 5 0 1 1", "meter o1 6 5 1 1", "meter o1 9 7 1 2"},
		api.ErrOver:  {"meter o1 5 4 9 9", "meter o1 9 4 1 1"},
		api.ErrTwice: {"meter o1 5 2 9 9", "meter o1 9 2 0 0"},
		api.ErrRange: {"meter o1 5 3 7 6", "meter o1 5 3 7 7", "meter o1 5 3 5 6", "meter o1 5 3 0 1", "meter o1 5 3 999999999 0"},
		api.OK:       {"meter o1 5 3 6 6", "meter o1 5 3 6 0", "meter o1 5 3 0 0", "meter o1 999999999 3 5 4"},
	})
	isAccepted(t, after(shown(4), "order o2 b a 1 2 5 2", "meter o1 4 2 6 6"), map[api.Errno][]string{
		api.ErrTwice: {"meter o1 4 2 6 6"},
		api.ErrRange: {"meter o2 4 2 3 2"},
		api.OK:       {"meter o2 4 2 2 2", "meter o1 4 3 6 6"},
	})
	isAccepted(t, after(shown(7), "undo"), map[api.Errno][]string{api.OK: {"meter o1 5 2 6 6"}})
}

// P10.1: an order has one trip, before its end.
func TestAcceptsTrips(t *testing.T) {
	isAccepted(t, shown(4), map[api.Errno][]string{
		api.ErrOver: {"trip o1 5", "trip o1 6", "trip o1 999999999"},
		api.OK:      {"trip o1 1", "trip o1 2", "trip o1 4"},
	})
	for _, tick := range []string{"1", "2", "4"} {
		isAccepted(t, after(shown(4), "trip o1 "+tick), map[api.Errno][]string{api.ErrOver: {"trip o1 4", "trip o1 5"}})
		isAccepted(t, after(shown(4), "trip o1 "+tick, "undo"), map[api.Errno][]string{api.OK: {"trip o1 4"}})
	}
	before := after(shown(4), "trip o1 1")
	isAccepted(t, before, map[api.Errno][]string{api.ErrOver: {"meter o1 9 2 0 0", "meter o1 9 4 0 0"}, api.OK: {"settle 9 9", "order o2 a b 1 2 5 8"}})
}

// P10.1: an outage has a span and a rest, and no load above this.
func TestAcceptsOutages(t *testing.T) {
	isAccepted(t, shown(4), map[api.Errno][]string{
		api.ErrSpan:     {"outage y b 1 0 4 99", "outage y b 2 1 4 1", "outage y b 1 4 4 1", "outage y b 1 5 4 9", "outage y b 1 5 54 0", "outage y b 1 1 999999999 0"},
		api.ErrRange:    {"outage y b 1 3 4 8", "outage y b 1 3 4 9", "outage y a 1 3 4 10", "outage y b 1 9 10 999999999"},
		api.ErrConflict: {"outage y b 1 3 4 5", "outage y b 1 4 52 5", "outage y b 1 1 3 0", "outage y a 1 2 3 5"},
		api.OK:          {"outage y b 1 3 4 6", "outage y b 1 5 53 0", "outage y b 1 1 2 0", "outage y a 1 1 49 6", "outage y a 1 2 3 9", "outage y b 5 5 6 7"},
	})
	isAccepted(t, after(shown(4), "trip o1 4"), map[api.Errno][]string{api.OK: {"outage y b 4 4 5 0"}})
	isAccepted(t, shown(5), map[api.Errno][]string{api.OK: {"outage y b 1 5 7 0", "outage y b 1 6 8 7"}})
	l := journal("station a 0 1000")
	for i := range 16 {
		l = after(l, fmt.Sprintf("outage x%d a 0 0 1 %d", i, i))
	}
	is(t, "the last outage", books.Accepts(l[:16], l[16]), api.OK)
	isAccepted(t, l, map[api.Errno][]string{api.ErrMany: {"outage more a 0 5 6 999"}, api.ErrRange: {"outage more a 0 5 6 1000"}})
	isAccepted(t, after(l, "station b 0 9", "order o a b 0 5 6 5"), map[api.Errno][]string{api.ErrConflict: {"outage more a 0 5 6 4"}, api.ErrMany: {"outage more a 0 5 6 5"}})
}

// P10.1: an outage ends while it is, if nobody works.
func TestAcceptsRestores(t *testing.T) {
	isAccepted(t, shown(6), map[api.Errno][]string{
		api.ErrRule: {"restore x 5"},
		api.ErrOpen: {"restore x 6"},
		api.ErrOver: {"restore x 7", "restore x 8"},
	})
	isAccepted(t, shown(5), map[api.Errno][]string{
		api.ErrRule: {"restore x 1", "restore x 4", "restore x 5"},
		api.OK:      {"restore x 6"},
		api.ErrOver: {"restore x 7", "restore x 999999999"},
	})
	isAccepted(t, after(shown(6), "return p 6"), map[api.Errno][]string{api.OK: {"restore x 6"}, api.ErrOver: {"restore x 7"}})
	isAccepted(t, after(shown(6), "permit q x 5", "return p 6"), map[api.Errno][]string{api.ErrOpen: {"restore x 6"}})
	isAccepted(t, after(shown(6), "outage y b 5 5 7 0"), map[api.Errno][]string{api.ErrOpen: {"restore x 6"}, api.OK: {"restore y 6"}})
	isAccepted(t, after(shown(5), "restore x 6"), map[api.Errno][]string{api.ErrOver: {"restore x 6", "restore x 7"}})
}

// P10.1: a permit is given while its outage is, and is given back once.
func TestAcceptsPermits(t *testing.T) {
	isAccepted(t, shown(5), map[api.Errno][]string{
		api.ErrState: {"permit p x 1", "permit p x 4", "permit p x 7", "permit p x 999999999"},
		api.OK:       {"permit p x 5", "permit p x 6"},
	})
	isAccepted(t, after(shown(5), "restore x 6"), map[api.Errno][]string{api.ErrState: {"permit p x 6"}})
	isAccepted(t, shown(6), map[api.Errno][]string{api.OK: {"permit q x 5", "permit q x 6", "return p 5", "return p 99"}})
	isAccepted(t, after(shown(6), "return p 6"), map[api.Errno][]string{api.ErrOver: {"return p 6", "return p 7"}, api.ErrTwice: {"permit p x 6"}, api.OK: {"permit q x 6"}})
	l := shown(5)
	for i := range 16 {
		l = after(l, fmt.Sprintf("permit p%d x 5", i))
	}
	is(t, "the last permit", books.Accepts(l[:20], l[20]), api.OK)
	isAccepted(t, l, map[api.Errno][]string{api.ErrMany: {"permit more x 5"}, api.ErrState: {"permit more x 7"}, api.OK: {"return p0 5"}})
	isAccepted(t, after(l, "return p0 5"), map[api.Errno][]string{api.ErrMany: {"permit more x 5"}})
}

// P10.1: hours are settled when they are over, and nothing of them is open.
func TestAcceptsSettles(t *testing.T) {
	isAccepted(t, shown(6), map[api.Errno][]string{
		api.ErrSpan: {"settle 5 0", "settle 5 6", "settle 9 10", "settle 5 999999999"},
		api.ErrOpen: {"settle 5 3", "settle 5 5", "settle 9 9"},
		api.OK:      {"settle 5 1", "settle 5 2", "settle 9 2"},
	})
	isAccepted(t, shown(7), map[api.Errno][]string{api.ErrOpen: {"settle 5 4"}, api.OK: {"settle 5 3"}})
	isAccepted(t, shown(9), map[api.Errno][]string{api.OK: {"settle 5 5", "settle 6 6", "settle 7 5"}, api.ErrOpen: {"settle 7 7", "settle 8 8"}, api.ErrSpan: {"settle 5 6"}})
	isAccepted(t, shown(10), map[api.Errno][]string{api.ErrSpan: {"settle 7 5", "settle 7 4", "settle 7 8"}, api.OK: {"settle 7 6"}, api.ErrOpen: {"settle 7 7"}})
	isAccepted(t, after(shown(9), "return p 5"), map[api.Errno][]string{api.OK: {"settle 7 7", "settle 999999999 999999999"}})
	isAccepted(t, after(shown(9), "permit q x 6", "return p 6"), map[api.Errno][]string{api.ErrOpen: {"settle 7 7"}, api.OK: {"settle 7 6"}})
	isAccepted(t, after(shown(4), "trip o1 3", "meter o1 4 2 0 0"), map[api.Errno][]string{api.OK: {"settle 9 9"}})
	isAccepted(t, after(shown(4), "trip o1 3"), map[api.Errno][]string{api.ErrOpen: {"settle 9 3", "settle 9 9"}, api.OK: {"settle 9 2"}})
}

// P10.1: what is settled is not taken back, but what comes after it is.
func TestAcceptsUndos(t *testing.T) {
	isAccepted(t, shown(10), map[api.Errno][]string{api.ErrRule: {"undo"}})
	isAccepted(t, shown(11), map[api.Errno][]string{api.OK: {"undo"}})
	isAccepted(t, after(shown(11), "undo"), map[api.Errno][]string{api.ErrRule: {"undo"}})
	isAccepted(t, shown(13), map[api.Errno][]string{api.ErrRule: {"undo"}})
	isAccepted(t, journal("station a 0 1"), map[api.Errno][]string{api.OK: {"undo"}})
	isAccepted(t, journal("station a 0 1", "undo"), map[api.Errno][]string{api.ErrEmpty: {"undo"}, api.OK: {"station a 0 1"}})
}

// P10.1: the register of a tick has those events that count after all of them.
func TestAsOf(t *testing.T) {
	for tick, want := range map[int]int{0: 3, 1: 5, 4: 5, 5: 10, 6: 12, 7: 12, 8: 13, 9: 13, 999999999: 13} {
		r, e := books.AsOf(shown(13), tick)
		register, _, _ := books.Replay(shown(13)[:want])
		isRegister(t, fmt.Sprint("the tick ", tick), r, register)
		is(t, fmt.Sprint("the tick ", tick), e, api.OK)
	}
	undone := after(shown(5), "permit p x 6", "undo", "undo", "price b 3 9")
	for tick, want := range map[int][]api.Event{0: shown(3), 1: shown(4), 2: shown(4), 3: after(shown(4), "price b 3 9"), 6: after(shown(4), "price b 3 9")} {
		r, e := books.AsOf(undone, tick)
		register, _, _ := books.Replay(want)
		isRegister(t, fmt.Sprint("the tick ", tick), r, register)
		is(t, fmt.Sprint("the tick ", tick), e, api.OK)
	}
	r, e := books.AsOf(nil, 5)
	isRegister(t, "nothing", r, books.Register{})
	is(t, "nothing", e, api.OK)
	for _, tick := range beyond(0, 999999999) {
		r, e := books.AsOf(shown(13), tick)
		isRegister(t, fmt.Sprint("the tick ", tick), r, books.Register{})
		is(t, fmt.Sprint("the tick ", tick), e, api.ErrRange)
	}
	eachBadJournal(func(l []api.Event, want api.Errno) {
		for _, tick := range []int{0, 5, -1} {
			r, e := books.AsOf(l, tick)
			isRegister(t, brief(l), r, books.Register{})
			is(t, brief(l), e, want)
		}
	})
}

// P10.1: events are accepted as by the definitions, and lead to their register.
func TestRandomEvents(t *testing.T) {
	r := rand.New(rand.NewSource(1011))
	seen := map[string]int{}
	for range 250 {
		l := randomJournal(r, 0)
		for range 60 {
			m := modelOf(l)
			e := randomEvent(r, m, len(l)+1)
			want := m.verdict(e)
			seen[fmt.Sprint(e.Kind, " ", int(want))]++
			is(t, fmt.Sprint(e, " after ", brief(l)), books.Accepts(l, e), want)
			next := append(slices.Clone(l), e)
			register, at, bad := books.Replay(next)
			is(t, brief(next), bad, want)
			if want != api.OK {
				is(t, brief(next), at, len(next))
				continue
			}
			l = next
			isRegister(t, brief(l), register, modelOf(l).register())
		}
		eachTick(t, l)
	}
	for kind, errors := range map[string][]int{"station": {0, 3, 9, 22}, "price": {0, 3, 10, 22}, "order": {0, 3, 4, 9, 10, 14, 22, 24}, "meter": {0, 3, 9, 10, 11, 14, 23}, "trip": {0, 10, 22, 23}, "outage": {0, 3, 9, 10, 14, 22, 24}, "restore": {0, 10, 21, 22, 23, 32}, "permit": {0, 9, 10, 22}, "return": {0, 10, 22, 23}, "settle": {0, 14, 22, 32}, "undo": {0, 12, 21}} {
		for _, e := range errors {
			if n := seen[fmt.Sprint(kind, " ", e)]; n < 10 {
				t.Errorf("%s has the error %d only %d times", kind, e, n)
			}
		}
	}
}

// eachTick fails a test if the register of a tick is not that by the definition.
func eachTick(t *testing.T, l []api.Event) {
	t.Helper()
	m := modelOf(l)
	for tick := range m.tick() + 2 {
		n := 0
		for n < len(m) && m[n].Values[0] <= tick {
			n++
		}
		r, e := books.AsOf(l, tick)
		isRegister(t, fmt.Sprint("the tick ", tick, " of ", brief(l)), r, m[:n].register())
		is(t, fmt.Sprint("the tick ", tick, " of ", brief(l)), e, api.OK)
	}
}
