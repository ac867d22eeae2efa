package books_test

import (
	"fmt"
	"math/rand"
	"slices"
	"strconv"
	"strings"
	"testing"

	"bipole/api"
	"bipole/books"
)

// opened returns a session with events.
func opened(t *testing.T, l []api.Event) *books.Session {
	t.Helper()
	s, e := books.Open(logOf(l))
	if e != api.OK {
		t.Fatalf("%s: got %v", brief(l), e)
	}
	return s
}

// isDone fails a test if a line does not have the expected result.
func isDone(t *testing.T, s *books.Session, line, want string, bad api.Errno) {
	t.Helper()
	got, e := s.Do(line)
	is(t, brief(line), got, want)
	is(t, brief(line), e, bad)
}

// lineOf returns the line of an event.
func lineOf(e api.Event) string {
	body, _, _ := strings.Cut(logOf([]api.Event{e}), "#")
	_, line, _ := strings.Cut(body, " ")
	return line
}

// P10.4: a session has the events of its lines, and their log.
func TestSession(t *testing.T) {
	s := books.New()
	isEvents(t, "a new session", s.Events(), nil)
	is(t, "a new session", s.Log(), "")
	for i, e := range shown(13) {
		isDone(t, s, lineOf(e), "done "+strconv.Itoa(i+1), api.OK)
		isEvents(t, "the session", s.Events(), shown(13)[:i+1])
		is(t, "the session", s.Log(), logOf(shown(13)[:i+1]))
	}
	isDone(t, s, "price a 8 9", "done 14", api.OK)
	isDone(t, s, "undo", "done 15", api.OK)
	isDone(t, s, "rate a", "5", api.OK)
	isEvents(t, "the session", s.Events(), after(shown(13), "price a 8 9", "undo"))
	other := books.New()
	isDone(t, other, "settled", "0", api.OK)
	isDone(t, other, "station z 0 1", "done 1", api.OK)
	isEvents(t, "another session", other.Events(), journal("station z 0 1"))
	isDone(t, s, "rate z", "", api.ErrUnknown)
}

// P10.4: the lines of the chapter's examples, and what they are about.
func TestQuestions(t *testing.T) {
	for _, x := range []struct {
		l       []api.Event
		answers map[string]string
	}{
		{nil, map[string]string{"missing": "none", "outages": "none", "permits": "none", "settled": "0"}},
		{shown(5), map[string]string{"outages": "none", "permits": "none", "missing": "none", "rate a": "5", "rate b": "0"}},
		{shown(6), map[string]string{"outages": "x", "permits": "p", "missing": "o1 2 o1 3 o1 4", "settled": "0", "bill o1": "0 0 0 0 0", "balance a": "0"}},
		{shown(8), map[string]string{"missing": "o1 4"}},
		{shown(10), map[string]string{"missing": "none", "bill o1": "3 16 14 70 12", "balance a": "58", "balance b": "-58", "settled": "5", "permits": "p"}},
		{shown(13), map[string]string{"outages": "none", "permits": "none", "settled": "8"}},
		{traded(), map[string]string{"balance a": "4", "balance b": "-33", "balance c": "29", "bill o3": "1 3 0 0 9", "bill o5": "0 0 0 0 0", "bill o1": "1 2 2 12 0", "rate c": "5", "settled": "2", "missing": "none"}},
		{after(shown(5), "outage y b 4 4 6 7", "outage z a 5 5 6 0", "permit q x 5", "permit r z 5", "permit p x 5", "return r 5"), map[string]string{"outages": "x y z", "permits": "q p", "missing": "o1 2 o1 3 o1 4"}},
		{after(shown(5), "outage y b 4 4 6 7", "outage z a 5 6 9 0", "price a 6 0"), map[string]string{"outages": "x z", "rate a": "0"}},
	} {
		s := opened(t, x.l)
		for line, want := range x.answers {
			isDone(t, s, line, want, api.OK)
		}
		isEvents(t, "the events behind questions", s.Events(), x.l)
	}
}

// P10.4: the first 256 hours that are missing are named.
func TestManyMissing(t *testing.T) {
	for _, l := range [][]api.Event{crowded(5), after(crowded(6), "meter o5 48 47 0 0"), crowded(32)} {
		gaps, words := modelOf(l).missing(48), []string{}
		for _, gap := range gaps[:min(256, len(gaps))] {
			words = append(words, gap.Order, strconv.Itoa(gap.Hour))
		}
		isDone(t, opened(t, l), "missing", strings.Join(words, " "), api.OK)
	}
	got, _ := opened(t, crowded(32)).Do("missing")
	is(t, "the number of words", len(strings.Fields(got)), 512)
	is(t, "the last hour", strings.HasSuffix(got, " o5 14 o5 15"), true)
}

// P10.4: lines that have no form, and those of no kind.
func TestLineErrors(t *testing.T) {
	for want, lines := range map[api.Errno][]string{
		api.ErrLong:    {strings.Repeat("x", 4097), "undo " + strings.Repeat(" ", 5000), strings.Repeat("\n", 1000000)},
		api.ErrKind:    {strings.Repeat("x", 4096), " ", " undo", "none", "Undo", "undo\n", "undo\tx", "\n", "\x00", "1", "11 undo", "show a", "missing\n", "account a b", "station\ta 0 1", "permits#", "#", "outages\n x"},
		api.ErrSyntax:  {"", "undo ", "undo x", "undo 5", "station", "station ", "station c", "station c 9", "station c 9 5 ", "station c 9 5 6", "station  c 9", "station c  9 5", "station c 09 5", "station c 9 -5", "station c 9 x", "station c 9 5\n", "station c 9 1000000000", "station 9 5", "settle a 9", "settle 9", "meter o1 9 2 6", "trip o1", "trip", "order o2 a b 9 9 10", "order o2 a 9 9 10 1", "permit p x", "permit p 5", "price 1 x 5", "missing ", "missing 5", "settled x", "permits p", "outages x", "outages  ", "rate", "rate ", "rate a ", "rate  a", "rate a b", "rate none b", "balance", "balance a b", "bill", "bill o1 o1", "bill  ", strings.Repeat("rate ", 800)},
		api.ErrUnknown: {"rate none", "rate o1", "rate x", "rate 1", "rate \x00", "rate a\n", "balance o1", "balance none", "balance p", "bill a", "bill none", "bill x", "trip none 9", "price o1 9 5", "permit q p 5"},
		api.ErrName:    {"station 1 9 5", "station 1 9 1001", "station a- 9 5", "station a\n 9 5", "trip # 9", "price abcdefghijklmnopqrstuvwxy 5 5", "order o2 a \xff 9 9 10 1", "permit x 1 0"},
		api.ErrState:   {"station c 4 0", "trip none 0"},
		api.ErrRule:    {"undo"},
		api.ErrTwice:   {"station a 5 5"},
		api.ErrRange:   {"station c 5 0", "price a 5 999999999"},
		api.ErrSpan:    {"settle 5 5", "order o2 a b 5 4 9 0"},
		api.ErrOver:    {"trip o1 5"},
		api.ErrOpen:    {"settle 9 9", "restore x 6"},
	} {
		s := opened(t, shown(10))
		for _, line := range lines {
			isDone(t, s, line, "", want)
			isEvents(t, brief(line), s.Events(), shown(10))
			is(t, brief(line), s.Log(), logOf(shown(10)))
		}
		isDone(t, s, "return p 6", "done 11", api.OK)
		isEvents(t, "behind errors", s.Events(), shown(11))
	}
	isDone(t, books.New(), "undo", "", api.ErrEmpty)
	isDone(t, books.New(), "rate a", "", api.ErrUnknown)
	isDone(t, books.New(), "bill", "", api.ErrSyntax)
}

// P10.4: a line may have up to MaxText bytes, a name up to MaxName.
func TestLongLines(t *testing.T) {
	s := books.New()
	isDone(t, s, "rate "+strings.Repeat("x", 4091), "", api.ErrUnknown)
	isDone(t, s, "rate "+strings.Repeat("x", 4092), "", api.ErrLong)
	isDone(t, s, "station "+strings.Repeat("x", 4084)+" 0 1", "", api.ErrName)
	isDone(t, s, "station "+strings.Repeat("x", 24)+" 0 999", "done 1", api.OK)
	isDone(t, s, "rate "+strings.Repeat("x", 24), "0", api.OK)
	isDone(t, s, strings.Repeat(" ", 4096), "", api.ErrKind)
}

// P10.4: a session has at most MaxEvents events.
func TestFullSession(t *testing.T) {
	s := opened(t, long(999))
	isDone(t, s, "undo", "done 1000", api.OK)
	for line, want := range map[string]api.Errno{"undo": api.ErrMany, "price a 0 5": api.ErrMany, "price none 0 5": api.ErrMany, "station 1 0 5": api.ErrMany, "undo x": api.ErrSyntax, "price a 0": api.ErrSyntax, "none": api.ErrKind, "": api.ErrSyntax} {
		isDone(t, s, line, "", want)
	}
	isDone(t, s, "rate a", "997", api.OK)
	isEvents(t, "the full session", s.Events(), after(long(999), "undo"))
	is(t, "the full session", s.Log(), logOf(after(long(999), "undo")))
}

// P10.4: a torn log is opened, any other that is wrong is not.
func TestOpen(t *testing.T) {
	log := logOf(shown(13))
	for _, x := range []struct {
		log  string
		n    int
		want api.Errno
	}{
		{"", 0, api.OK}, {"x", 0, api.OK}, {log, 13, api.OK}, {log + "14 undo", 13, api.OK}, {log[:len(log)-1], 12, api.OK}, {log + strings.Repeat("x", 1000000-len(log)), 13, api.OK},
	} {
		s, e := books.Open(x.log)
		is(t, brief(x.log), e, x.want)
		isEvents(t, brief(x.log), s.Events(), shown(x.n))
		is(t, brief(x.log), s.Log(), logOf(shown(x.n)))
	}
	for want, logs := range map[api.Errno][]string{
		api.ErrLong:   {log + strings.Repeat("x", 1000001-len(log))},
		api.ErrCheck:  {"1#0000391\n", log + "#0000000\n", strings.Replace(log, "b 0 8", "b 0 9", 1), log + "#0000000\nx"},
		api.ErrSyntax: {"\n", log + "x\n", sealed("1 none"), sealed("1 trip none 0", "1 x"), log + "\nx"},
		api.ErrOrder:  {log + log, sealed("2 undo"), sealed("1 undo", "1 undo"), sealed("1 undo", "3 undo")},
		api.ErrEmpty:  {sealed("1 undo"), sealed("1 undo") + "x", sealed("1 undo", "2 station a 0 0")},
		api.ErrRule:   {log + sealed("14 undo"), log + sealed("14 undo") + "x"},
		api.ErrRange:  {sealed("1 station a 0 0"), sealed("1 station a 0 0", "2 station a 0 0")},
		api.ErrOpen:   {logOf(after(shown(6), "settle 5 5"))},
	} {
		for _, log := range logs {
			s, e := books.Open(log)
			is(t, brief(log), e, want)
			is(t, brief(log), s, nil)
		}
	}
}

// P10.4: a nil session does nothing.
func TestNilSession(t *testing.T) {
	var s *books.Session
	for _, line := range []string{"", "undo", "settled", "none", "station a 0 1", strings.Repeat("x", 4097)} {
		isDone(t, s, line, "", api.ErrState)
	}
	isEvents(t, "a nil session", s.Events(), nil)
	is(t, "a nil session", s.Log(), "")
}

// P10.4: a line does what its event does, and answers are those of the functions.
func TestRandomSessions(t *testing.T) {
	r := rand.New(rand.NewSource(1041))
	seen := map[string]int{}
	for range 100 {
		l := randomJournal(r, r.Intn(20))
		s := opened(t, l)
		for range 40 {
			e := randomEvent(r, modelOf(l), len(l)+1)
			want, bad := "", books.Accepts(l, e)
			if bad == api.OK {
				l = append(slices.Clone(l), e)
				want = fmt.Sprint("done ", e.Number)
			}
			isDone(t, s, lineOf(e), want, bad)
			isEvents(t, brief(l), s.Events(), l)
			seen[e.Kind+strconv.FormatBool(bad == api.OK)]++
			isAnswered(t, s, l)
		}
	}
	for _, kind := range []string{"price", "order", "meter", "trip", "outage", "restore", "permit", "return", "settle", "undo"} {
		if seen[kind+"true"] < 10 || seen[kind+"false"] < 5 {
			t.Errorf("%s is done %d times, and fails %d times", kind, seen[kind+"true"], seen[kind+"false"])
		}
	}
}

// isAnswered fails a test if a session does not answer as the functions do of its events.
func isAnswered(t *testing.T, s *books.Session, l []api.Event) {
	t.Helper()
	r, _, _ := books.Replay(l)
	bills, _ := books.Bills(l)
	for _, b := range bills {
		isDone(t, s, "bill "+b.Order, fmt.Sprint(b.Hours, b.Sent, b.Got, b.Money, b.Fine), api.OK)
	}
	for _, x := range r.Stations {
		balance, _ := books.Balance(l, x.Name)
		isDone(t, s, "balance "+x.Name, fmt.Sprint(balance), api.OK)
		isDone(t, s, "rate "+x.Name, fmt.Sprint(x.Price), api.OK)
	}
	var missing, outages, permits []string
	gaps, _ := books.Missing(l, r.Tick)
	for _, gap := range gaps {
		missing = append(missing, gap.Order, strconv.Itoa(gap.Hour))
	}
	for _, x := range r.Outages {
		if x.Span.From <= r.Tick && r.Tick < x.Span.To {
			outages = append(outages, x.Name)
		}
	}
	for _, x := range r.Permits {
		if x.Open {
			permits = append(permits, x.Name)
		}
	}
	for line, words := range map[string][]string{"missing": missing, "outages": outages, "permits": permits, "settled": {strconv.Itoa(r.Settled)}} {
		want := strings.Join(words, " ")
		if want == "" {
			want = "none"
		}
		isDone(t, s, line, want, api.OK)
	}
}
