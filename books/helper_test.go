package books_test

import (
	"fmt"
	"math"
	"math/rand"
	"slices"
	"strconv"
	"strings"
	"testing"

	"bipole/api"
	"bipole/books"
)

// is fails a test if a result is not the expected one.
func is[T comparable](t *testing.T, what string, got, want T) {
	t.Helper()
	if got != want {
		t.Errorf("%s: got %v, want %v", what, got, want)
	}
}

// isList fails a test if a list is not the expected one; nil and empty lists are equal.
func isList[T comparable](t *testing.T, what string, got, want []T) {
	t.Helper()
	if !slices.Equal(got, want) {
		t.Errorf("%s: got %v, want %v", what, got, want)
	}
}

// isEvents fails a test if events are not the expected ones.
func isEvents(t *testing.T, what string, got, want []api.Event) {
	t.Helper()
	same := func(a, b api.Event) bool {
		return a.Number == b.Number && a.Kind == b.Kind && slices.Equal(a.Names, b.Names) && slices.Equal(a.Values, b.Values) && a.Text == b.Text
	}
	if !slices.EqualFunc(got, want, same) {
		t.Errorf("%s: got %v, want %v", what, got, want)
	}
}

// isRegister fails a test if a register is not the expected one.
func isRegister(t *testing.T, what string, got, want books.Register) {
	t.Helper()
	is(t, what+": tick", got.Tick, want.Tick)
	is(t, what+": settled", got.Settled, want.Settled)
	isList(t, what+": stations", got.Stations, want.Stations)
	isList(t, what+": orders", got.Orders, want.Orders)
	isList(t, what+": meters", got.Meters, want.Meters)
	isList(t, what+": outages", got.Outages, want.Outages)
	isList(t, what+": permits", got.Permits, want.Permits)
}

// brief returns the end of the text of values.
func brief(l ...any) string {
	s := fmt.Sprint(l...)
	return s[max(0, len(s)-300):]
}

// beyond returns integers that are not from low to high.
func beyond(low, high int) []int {
	return []int{low - 1, high + 1, -1 << 40, 1 << 40, math.MinInt, math.MaxInt}
}

// between returns a random integer from low to high.
func between(r *rand.Rand, low, high int) int {
	return low + r.Intn(high-low+1)
}

// event returns the event with a number and the words of a line: its Kind, its Names, and
// its Values, which begin with a digit.
func event(number int, line string) api.Event {
	words := strings.Fields(line)
	e := api.Event{Number: number, Kind: words[0]}
	for _, word := range words[1:] {
		if n, err := strconv.Atoi(word); err == nil {
			e.Values = append(e.Values, n)
		} else {
			e.Names = append(e.Names, word)
		}
	}
	return e
}

// journal returns the events with lines, numbered from 1 on.
func journal(lines ...string) []api.Event {
	var l []api.Event
	for i, line := range lines {
		l = append(l, event(i+1, line))
	}
	return l
}

// after returns events with the one of a line behind them.
func after(l []api.Event, lines ...string) []api.Event {
	l = slices.Clone(l)
	for _, line := range lines {
		l = append(l, event(len(l)+1, line))
	}
	return l
}

// shown returns the first events of the chapter's examples: those up to the number 6, the
// meters up to 9, the settlement 10, and how the outage ends up to 13.
func shown(n int) []api.Event {
	return journal("station a 0 10", "station b 0 8", "price a 0 5", "order o1 a b 1 2 5 6", "outage x b 1 5 7 0", "permit p x 5", "meter o1 5 2 6 6", "meter o1 5 3 6 5", "meter o1 5 4 4 3", "settle 5 5", "return p 6", "restore x 6", "settle 8 8")[:n]
}

// shownRegister is the register after the first ten events of the chapter's examples.
func shownRegister() books.Register {
	return books.Register{
		Tick:     5,
		Settled:  5,
		Stations: []books.Station{{Name: "a", Limit: 10, Price: 5}, {Name: "b", Limit: 8}},
		Orders:   []books.Order{{Name: "o1", From: "a", To: "b", Span: api.Span{From: 2, To: 5}, Power: 6, Price: 5, Trip: -1}},
		Meters:   []books.Meter{{Order: "o1", Hour: 2, Sent: 6, Got: 6}, {Order: "o1", Hour: 3, Sent: 6, Got: 5}, {Order: "o1", Hour: 4, Sent: 4, Got: 3}},
		Outages:  []books.Outage{{Name: "x", Station: "b", Span: api.Span{From: 5, To: 7}}},
		Permits:  []books.Permit{{Name: "p", Outage: "x", Open: true}},
	}
}

// long returns so many events, from 2 on, that are accepted: prices behind a station.
func long(n int) []api.Event {
	l := journal("station a 0 1000")
	for len(l) < n {
		l = append(l, event(len(l)+1, "price a 0 "+strconv.Itoa(len(l)%1001)))
	}
	return l
}

// crowded returns two stations and orders between them, each of 48 hours from 0 on, of
// which none has a meter, at the tick 48.
func crowded(orders int) []api.Event {
	l := journal("station a 0 1000", "station b 0 1000")
	for i := range orders {
		l = after(l, fmt.Sprintf("order o%d %s 0 0 48 1", i, []string{"a b", "b a"}[i%2]))
	}
	return after(l, "price a 48 7")
}

// examples are lines of events of all kinds.
var examples = []string{"station a 0 10", "price a 0 5", "order o1 a b 1 2 5 6", "meter o1 5 2 6 6", "trip o1 4", "outage x b 1 5 7 0", "restore x 6", "permit p x 5", "return p 6", "settle 5 5", "undo"}

// badNames are strings that are no names.
var badNames = []string{"", "1", "_a", "a b", "a-", "ä", "m\n", "a#", strings.Repeat("m", 25)}

// badJournals returns lists of events that Replay does not take, by the numbers of the
// first events that are wrong and by their errors.
func badJournals() map[api.Errno]map[int][]api.Event {
	good := shown(6)
	with := func(e api.Event) []api.Event { return append(slices.Clone(good), e) }
	return map[api.Errno]map[int][]api.Event{
		api.ErrMany:     {0: after(long(1000), "undo")},
		api.ErrRange:    {1: {{Kind: "undo"}}, 7: with(api.Event{Number: 1001, Kind: "undo"}), 1000: append(long(999), api.Event{Number: 0, Kind: "none"})},
		api.ErrKind:     {1: journal("none", "undo"), 7: with(api.Event{Number: 7})},
		api.ErrShape:    {1: journal("station a 0"), 7: after(good, "undo 5")},
		api.ErrName:     {7: with(api.Event{Number: 7, Kind: "trip", Names: []string{"1"}, Values: []int{0}})},
		api.ErrForm:     {7: with(api.Event{Number: 7, Kind: "undo", Text: "x"})},
		api.ErrOrder:    {1: {{Number: 2, Kind: "undo"}}, 7: with(event(6, "undo")), 8: append(shown(7), event(9, "undo"))},
		api.ErrEmpty:    {1: journal("undo"), 3: journal("station a 0 1", "undo", "undo", "none")},
		api.ErrRule:     {11: after(shown(10), "undo")},
		api.ErrState:    {7: after(good, "trip o1 4", "undo")},
		api.ErrUnknown:  {1: journal("price a 0 5"), 7: after(good, "trip o9 5")},
		api.ErrTwice:    {2: journal("station a 0 1", "station a 0 1"), 7: after(good, "permit p x 5")},
		api.ErrConflict: {5: after(shown(4), "outage y b 1 3 4 5")},
		api.ErrOver:     {7: after(good, "trip o1 5")},
		api.ErrOpen:     {7: after(good, "restore x 6")},
	}
}

// eachBadJournal calls a function with lists of events that Replay does not take, and
// with their errors.
func eachBadJournal(f func(l []api.Event, want api.Errno)) {
	for want, lists := range badJournals() {
		for _, l := range lists {
			f(l, want)
		}
	}
}
