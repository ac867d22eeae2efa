package books_test

import (
	"fmt"
	"math/rand"
	"testing"

	"bipole/api"
	"bipole/books"
)

// P10.2: the room of a station is its capacity less its load.
func TestRoom(t *testing.T) {
	tripped := after(shown(5), "order o2 b a 1 1 4 2", "trip o1 4")
	outages := after(shown(4), "outage x a 1 5 8 4", "outage y a 1 6 9 3", "outage z a 1 7 8 9", "order o2 b a 1 6 7 2", "restore y 8")
	for _, x := range []struct {
		l       []api.Event
		station string
		want    []int // by hours from 0 on
	}{
		{shown(2), "a", []int{10, 10, 10}}, {shown(2), "b", []int{8, 8}},
		{shown(6), "a", []int{10, 10, 4, 4, 4, 10, 10}}, {shown(6), "b", []int{8, 8, 2, 2, 2, 0, 0, 8}},
		{shown(12), "b", []int{8, 8, 2, 2, 2, 0, 8, 8}},
		{tripped, "a", []int{10, 8, 2, 2, 10, 10}}, {tripped, "b", []int{8, 6, 0, 0, 8, 0, 0, 8}},
		{outages, "a", []int{10, 10, 4, 4, 4, 4, 1, 3, 10, 10}}, {outages, "b", []int{8, 8, 2, 2, 2, 8, 6, 8}},
	} {
		for hour, want := range x.want {
			what := fmt.Sprint(x.station, " in the hour ", hour, " of ", brief(x.l))
			n, e := books.Room(x.l, x.station, hour)
			is(t, what, n, want)
			is(t, what, e, api.OK)
		}
		n, _ := books.Room(x.l, x.station, 999999999)
		first, _ := books.Room(x.l, x.station, 0)
		is(t, "the room in the last hour", n, first)
	}
}

// P10.2: the hours that count and have no meter, order by order.
func TestMissing(t *testing.T) {
	two := after(shown(4), "order o2 b a 1 1 4 2", "meter o1 4 3 6 6", "meter o2 4 1 0 0")
	for _, x := range []struct {
		l    []api.Event
		hour int
		want []books.Gap
	}{
		{nil, 5, nil}, {shown(6), 0, nil}, {shown(6), 2, nil}, {shown(6), 3, []books.Gap{{Order: "o1", Hour: 2}}}, {shown(6), 4, []books.Gap{{Order: "o1", Hour: 2}, {Order: "o1", Hour: 3}}}, {shown(8), 999999999, []books.Gap{{Order: "o1", Hour: 4}}}, {shown(8), 4, nil}, {shown(9), 99, nil},
		{two, 9, []books.Gap{{Order: "o1", Hour: 2}, {Order: "o1", Hour: 4}, {Order: "o2", Hour: 2}, {Order: "o2", Hour: 3}}}, {two, 3, []books.Gap{{Order: "o1", Hour: 2}, {Order: "o2", Hour: 2}}},
		{after(two, "trip o1 4"), 9, []books.Gap{{Order: "o1", Hour: 2}, {Order: "o2", Hour: 2}, {Order: "o2", Hour: 3}}}, {after(shown(4), "trip o1 1"), 9, nil}, {after(shown(4), "trip o1 3"), 9, []books.Gap{{Order: "o1", Hour: 2}}},
	} {
		what := fmt.Sprint("up to ", x.hour, " of ", brief(x.l))
		gaps, e := books.Missing(x.l, x.hour)
		isList(t, what, gaps, x.want)
		is(t, what, e, api.OK)
	}
}

// P10.2: at most MaxList hours may be missing.
func TestMissingLimit(t *testing.T) {
	l := crowded(6)
	gaps, e := books.Missing(l, 42)
	is(t, "252 hours", len(gaps), 252)
	is(t, "252 hours", e, api.OK)
	is(t, "252 hours", gaps[251], books.Gap{Order: "o5", Hour: 41})
	gaps, e = books.Missing(l, 43)
	is(t, "258 hours", len(gaps), 0)
	is(t, "258 hours", e, api.ErrMany)
	metered := after(l, "meter o0 48 0 1 1")
	_, e = books.Missing(metered, 43)
	is(t, "257 hours", e, api.ErrMany)
	gaps, e = books.Missing(after(metered, "meter o3 48 5 1 1"), 43)
	is(t, "256 hours", len(gaps), 256)
	is(t, "256 hours", e, api.OK)
	_, e = books.Missing(crowded(32), 999999999)
	is(t, "1536 hours", e, api.ErrMany)
}

// P10.2: bills are about settled hours alone.
func TestBills(t *testing.T) {
	both := journal("station a 0 10", "station b 0 9", "price a 0 5", "order o1 a b 1 2 5 6", "order o2 b a 1 1 4 2", "price a 1 100", "price b 1 7", "order o3 b a 2 2 4 1", "trip o3 3", "meter o1 4 2 6 6", "meter o2 4 1 2 2", "meter o2 4 2 1 0", "meter o2 4 3 2 1", "meter o1 4 3 0 0", "meter o3 4 2 1 1", "settle 4 4")
	for _, x := range []struct {
		l    []api.Event
		want []books.Bill
	}{
		{nil, nil}, {shown(3), nil}, {shown(9), []books.Bill{{Order: "o1"}}},
		{shown(10), []books.Bill{{Order: "o1", Hours: 3, Sent: 16, Got: 14, Money: 70, Fine: 12}}},
		{shown(13), []books.Bill{{Order: "o1", Hours: 3, Sent: 16, Got: 14, Money: 70, Fine: 12}}},
		{after(shown(8), "settle 5 4"), []books.Bill{{Order: "o1", Hours: 2, Sent: 12, Got: 11, Money: 55, Fine: 3}}},
		{after(shown(9), "settle 5 3"), []books.Bill{{Order: "o1", Hours: 1, Sent: 6, Got: 6, Money: 30}}},
		{after(shown(9), "settle 5 2"), []books.Bill{{Order: "o1"}}},
		{both, []books.Bill{{Order: "o1", Hours: 2, Sent: 6, Got: 6, Money: 30, Fine: 18}, {Order: "o2", Hours: 3, Sent: 5, Got: 3, Fine: 9}, {Order: "o3", Hours: 1, Sent: 1, Got: 1, Money: 7}}},
	} {
		bills, e := books.Bills(x.l)
		isList(t, "the bills of "+brief(x.l), bills, x.want)
		is(t, "the bills of "+brief(x.l), e, api.OK)
	}
}

// traded returns settled orders between three stations: from a to b it is 12 less 0, from
// b to a 2 less 3, from a to c 0 less 9, from c to b 20 less 0.
func traded() []api.Event {
	return journal("station a 0 9", "station b 0 9", "station c 0 9", "price a 0 6", "price b 0 2", "order o1 a b 0 0 1 2", "order o2 b a 0 0 2 1", "order o3 a c 0 0 1 3", "price c 0 5", "order o4 c b 0 0 2 2", "order o5 b c 0 2 3 3",
		"meter o1 2 0 2 2", "meter o2 2 0 1 1", "meter o2 2 1 1 0", "meter o3 2 0 3 0", "meter o4 2 0 2 2", "meter o4 2 1 2 2", "settle 2 2", "meter o5 3 2 3 3")
}

// P10.2: accounts and balances of three stations.
func TestAccounts(t *testing.T) {
	for _, x := range []struct {
		a, b string
		want int
	}{
		{"a", "b", 13}, {"a", "c", -9}, {"b", "c", -20}, {"b", "a", -13}, {"c", "a", 9}, {"c", "b", 20},
	} {
		n, e := books.Account(traded(), x.a, x.b)
		is(t, "the account of "+x.a+" with "+x.b, n, x.want)
		is(t, "the account of "+x.a+" with "+x.b, e, api.OK)
	}
	for station, want := range map[string]int{"a": 4, "b": -33, "c": 29} {
		n, e := books.Balance(traded(), station)
		is(t, "the balance of "+station, n, want)
		is(t, "the balance of "+station, e, api.OK)
	}
	for station, want := range map[string]int{"a": 58, "b": -58} {
		n, _ := books.Balance(shown(10), station)
		is(t, "the balance of "+station, n, want)
		n, e := books.Balance(shown(9), station)
		is(t, "the balance without a settlement", n, 0)
		is(t, "the balance without a settlement", e, api.OK)
	}
}

// P10.2: what settled hours have.
func TestHour(t *testing.T) {
	for _, x := range []struct {
		l    []api.Event
		hour int
		want [3]int
		e    api.Errno
	}{
		{shown(10), 0, [3]int{}, api.OK}, {shown(10), 1, [3]int{}, api.OK}, {shown(10), 2, [3]int{6, 6, 30}, api.OK}, {shown(10), 3, [3]int{6, 5, 22}, api.OK}, {shown(10), 4, [3]int{4, 3, 6}, api.OK}, {shown(10), 5, [3]int{}, api.ErrState}, {shown(10), 999999999, [3]int{}, api.ErrState}, {shown(9), 2, [3]int{}, api.ErrState}, {shown(9), 0, [3]int{}, api.ErrState}, {nil, 0, [3]int{}, api.ErrState},
		{shown(13), 4, [3]int{4, 3, 6}, api.OK}, {shown(13), 7, [3]int{}, api.OK}, {shown(13), 8, [3]int{}, api.ErrState},
		{traded(), 0, [3]int{8, 5, 15}, api.OK}, {traded(), 1, [3]int{3, 2, 7}, api.OK}, {traded(), 2, [3]int{}, api.ErrState},
	} {
		what := fmt.Sprint("the hour ", x.hour, " of ", brief(x.l))
		sums, e := books.Hour(x.l, x.hour)
		is(t, what, sums, x.want)
		is(t, what, e, x.e)
	}
}

// P10.2: losses are in lowest terms.
func TestLosses(t *testing.T) {
	idle := after(shown(6), "meter o1 5 2 0 0", "meter o1 5 3 0 0", "meter o1 5 4 0 0", "settle 5 5")
	for _, x := range []struct {
		l    []api.Event
		want api.Ratio
		e    api.Errno
	}{
		{shown(10), api.Ratio{Num: 1, Den: 8}, api.OK}, {shown(9), api.Ratio{}, api.ErrZero}, {nil, api.Ratio{}, api.ErrZero}, {idle, api.Ratio{}, api.ErrZero}, {traded(), api.Ratio{Num: 4, Den: 11}, api.OK},
		{after(shown(7), "settle 5 3"), api.Ratio{Num: 0, Den: 1}, api.OK}, {after(shown(6), "meter o1 5 2 5 0", "settle 5 3"), api.Ratio{Num: 1, Den: 1}, api.OK},
	} {
		ratio, e := books.Losses(x.l)
		is(t, "the losses of "+brief(x.l), ratio, x.want)
		is(t, "the losses of "+brief(x.l), e, x.e)
	}
}

// P10.2: an hour is not available, whatever the rest of its outages.
func TestAvailability(t *testing.T) {
	many := journal("station a 0 9", "outage x a 0 1 3 8", "outage y a 0 2 5 0", "outage z a 0 8 56 5", "station b 9 1", "settle 9 9")
	for _, x := range []struct {
		l       []api.Event
		station string
		want    api.Ratio
	}{
		{shown(10), "a", api.Ratio{Num: 1, Den: 1}}, {shown(10), "b", api.Ratio{Num: 1, Den: 1}}, {shown(13), "a", api.Ratio{Num: 1, Den: 1}}, {shown(13), "b", api.Ratio{Num: 7, Den: 8}},
		{after(shown(9), "return p 5", "settle 6 6"), "b", api.Ratio{Num: 5, Den: 6}}, {after(shown(9), "return p 5", "settle 9 7"), "b", api.Ratio{Num: 5, Den: 7}}, {after(shown(9), "return p 5", "settle 999999999 999999999"), "b", api.Ratio{Num: 999999997, Den: 999999999}},
		{many, "a", api.Ratio{Num: 4, Den: 9}}, {many, "b", api.Ratio{Num: 1, Den: 1}}, {journal("station a 0 9", "outage x a 0 0 2 8", "settle 5 1"), "a", api.Ratio{Num: 0, Den: 1}}, {journal("station a 0 9", "outage x a 0 0 2 8", "settle 5 4"), "a", api.Ratio{Num: 1, Den: 2}},
	} {
		ratio, e := books.Availability(x.l, x.station)
		is(t, "the availability of "+x.station+" in "+brief(x.l), ratio, x.want)
		is(t, "the availability of "+x.station+" in "+brief(x.l), e, api.OK)
	}
}

// P10.2: the story of a station has the events about it alone, with numbers of its own.
func TestStory(t *testing.T) {
	undone := after(shown(6), "station c 5 9", "undo")
	third := after(shown(13), "station c 9 5", "price c 9 5", "order o2 c a 9 9 10 1", "outage y a 9 10 11 9", "outage z c 9 10 12 0", "permit q y 10", "permit r z 10", "meter o2 10 9 1 1", "return r 11", "return q 11", "restore z 11", "settle 11 11", "order o3 b c 11 11 13 1", "trip o3 12", "meter o3 12 11 0 0")
	for _, x := range []struct {
		l       []api.Event
		station string
		want    []string
	}{
		{shown(1), "a", []string{"station a 0 10"}},
		{shown(13), "a", []string{"station a 0 10", "station b 0 8", "price a 0 5", "order o1 a b 1 2 5 6", "meter o1 5 2 6 6", "meter o1 5 3 6 5", "meter o1 5 4 4 3"}},
		{shown(13), "b", []string{"station a 0 10", "station b 0 8", "price a 0 5", "order o1 a b 1 2 5 6", "outage x b 1 5 7 0", "permit p x 5", "meter o1 5 2 6 6", "meter o1 5 3 6 5", "meter o1 5 4 4 3", "return p 6", "restore x 6"}},
		{undone, "b", []string{"station a 0 10", "station b 0 8", "price a 0 5", "order o1 a b 1 2 5 6", "outage x b 1 5 7 0", "permit p x 5"}},
		{third, "a", []string{"station a 0 10", "station b 0 8", "price a 0 5", "order o1 a b 1 2 5 6", "meter o1 5 2 6 6", "meter o1 5 3 6 5", "meter o1 5 4 4 3", "station c 9 5", "price c 9 5", "order o2 c a 9 9 10 1", "outage y a 9 10 11 9", "permit q y 10", "meter o2 10 9 1 1", "return q 11"}},
		{third, "c", []string{"station a 0 10", "station b 0 8", "price a 0 5", "station c 9 5", "price c 9 5", "order o2 c a 9 9 10 1", "outage z c 9 10 12 0", "permit r z 10", "meter o2 10 9 1 1", "return r 11", "restore z 11", "order o3 b c 11 11 13 1", "trip o3 12", "meter o3 12 11 0 0"}},
	} {
		story, e := books.Story(x.l, x.station)
		isEvents(t, "the story of "+x.station+" in "+brief(x.l), story, journal(x.want...))
		is(t, "the story of "+x.station+" in "+brief(x.l), e, api.OK)
	}
}

// P10.2: the error of the events comes first, then that of stations, then the others.
func TestQuestionErrors(t *testing.T) {
	type answer struct {
		isZero bool
		e      api.Errno
	}
	ask := func(l []api.Event, a, b string, hour int) map[string]answer {
		room, roomError := books.Room(l, a, hour)
		gaps, gapsError := books.Missing(l, hour)
		account, accountError := books.Account(l, a, b)
		balance, balanceError := books.Balance(l, a)
		sums, sumsError := books.Hour(l, hour)
		available, availableError := books.Availability(l, a)
		story, storyError := books.Story(l, a)
		return map[string]answer{
			"Room": {room == 0, roomError}, "Missing": {len(gaps) == 0, gapsError}, "Account": {account == 0, accountError}, "Balance": {balance == 0, balanceError}, "Hour": {sums == [3]int{}, sumsError}, "Availability": {available == api.Ratio{}, availableError}, "Story": {len(story) == 0, storyError},
		}
	}
	for _, x := range []struct {
		a, b string
		hour int
		want map[string]api.Errno
	}{
		{"none", "a", -1, map[string]api.Errno{"Room": api.ErrUnknown, "Missing": api.ErrRange, "Account": api.ErrUnknown, "Balance": api.ErrUnknown, "Hour": api.ErrRange, "Availability": api.ErrUnknown, "Story": api.ErrUnknown}},
		{"", "", 1 << 40, map[string]api.Errno{"Room": api.ErrUnknown, "Missing": api.ErrRange, "Account": api.ErrUnknown, "Balance": api.ErrUnknown, "Hour": api.ErrRange, "Availability": api.ErrUnknown, "Story": api.ErrUnknown}},
		{"o1", "o1", 1000000000, map[string]api.Errno{"Room": api.ErrUnknown, "Missing": api.ErrRange, "Account": api.ErrUnknown, "Balance": api.ErrUnknown, "Hour": api.ErrRange, "Availability": api.ErrUnknown, "Story": api.ErrUnknown}},
		{"a", "none", -1, map[string]api.Errno{"Room": api.ErrRange, "Missing": api.ErrRange, "Account": api.ErrUnknown, "Hour": api.ErrRange}},
		{"a", "a", 999999999, map[string]api.Errno{"Account": api.ErrConflict, "Hour": api.ErrState}},
		{"b", "b", 5, map[string]api.Errno{"Account": api.ErrConflict, "Hour": api.ErrState}},
	} {
		for question, got := range ask(shown(10), x.a, x.b, x.hour) {
			is(t, fmt.Sprint(question, " of ", x), got.e, x.want[question])
			is(t, fmt.Sprint(question, " of ", x), got.e != api.OK && !got.isZero, false)
		}
	}
	eachBadJournal(func(l []api.Event, want api.Errno) {
		for _, hour := range []int{0, 4, -1} {
			for question, got := range ask(l, "a", "b", hour) {
				is(t, question+" of "+brief(l), got, answer{true, want})
			}
			for question, got := range ask(l, "none", "none", hour) {
				is(t, question+" of "+brief(l), got, answer{true, want})
			}
		}
		bills, e := books.Bills(l)
		is(t, "Bills of "+brief(l), len(bills), 0)
		is(t, "Bills of "+brief(l), e, want)
		losses, e := books.Losses(l)
		is(t, "Losses of "+brief(l), losses, api.Ratio{})
		is(t, "Losses of "+brief(l), e, want)
	})
	for station, want := range map[string]api.Errno{"a": api.ErrZero, "none": api.ErrUnknown} {
		ratio, e := books.Availability(shown(9), station)
		is(t, "the availability without a settlement", ratio, api.Ratio{})
		is(t, "the availability without a settlement", e, want)
	}
}

// lowest returns the ratio of two integers by dividing by all that divides both.
func lowest(num, den int) api.Ratio {
	for d := den; d > 1; d-- {
		if num%d == 0 && den%d == 0 {
			num, den = num/d, den/d
		}
	}
	return api.Ratio{Num: num, Den: den}
}

// P10.2: answers are those of the definitions.
func TestRandomQuestions(t *testing.T) {
	r := rand.New(rand.NewSource(1021))
	settled, owing, lost, out := 0, 0, 0, 0
	for range 150 {
		l := randomJournal(r, 90)
		m := modelOf(l)
		what := brief(l)
		bills, e := books.Bills(l)
		isList(t, what, bills, m.bills())
		is(t, what, e, api.OK)
		sent, got := m.sent()
		losses, e := books.Losses(l)
		if is(t, what, e == api.OK, sent > 0); sent > 0 {
			is(t, what, losses, lowest(sent-got, sent))
		}
		for hour := range m.tick() + 3 {
			gaps, e := books.Missing(l, hour)
			isList(t, what, gaps, m.missing(hour))
			is(t, what, e, api.OK)
			sums, e := books.Hour(l, hour)
			is(t, what, e == api.OK, hour < m.settled())
			is(t, what, sums, m.hour(hour))
		}
		for _, a := range stationNames {
			if !m.is("station", a) {
				continue
			}
			eachStation(t, l, a)
			available := m.available(a)
			ratio, e := books.Availability(l, a)
			if is(t, what, e == api.OK, m.settled() > 0); m.settled() > 0 {
				is(t, what, ratio, lowest(available, m.settled()))
			}
			settled, owing, lost, out = settled+min(1, m.settled()), owing+min(1, max(0, m.balance(a))), lost+min(1, sent-got), out+min(1, m.settled()-available)
		}
	}
	if settled < 200 || owing < 50 || lost < 50 || out < 50 {
		t.Errorf("%d are settled, %d owe, %d have lost, %d were out", settled, owing, lost, out)
	}
}

// eachStation fails a test if what is known of a station is not that by the definitions.
func eachStation(t *testing.T, l []api.Event, a string) {
	t.Helper()
	m := modelOf(l)
	what := a + " of " + brief(l)
	for hour := range m.tick() + 8 {
		room, e := books.Room(l, a, hour)
		is(t, what, room, m.room(a, hour))
		is(t, what, e, api.OK)
	}
	balance, e := books.Balance(l, a)
	is(t, what, balance, m.balance(a))
	is(t, what, e, api.OK)
	story, e := books.Story(l, a)
	isEvents(t, what, story, m.story(a))
	is(t, what, e, api.OK)
	for _, b := range stationNames {
		if m.is("station", b) && a != b {
			account, e := books.Account(l, a, b)
			is(t, what, account, m.account(a, b))
			is(t, what, e, api.OK)
		}
	}
}
