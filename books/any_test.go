package books_test

import (
	"math"
	"math/rand"
	"slices"
	"strings"
	"testing"

	"bipole/api"
	"bipole/books"
)

// anyInt returns an integer, often one at the end of a range.
func anyInt(r *rand.Rand) int {
	ends := []int{0, 1, 2, 3, 8, 48, 256, 1000, 999999999, 1 << 40, math.MaxInt32, math.MaxInt}
	n := ends[r.Intn(len(ends))] + r.Intn(3) - 1
	if r.Intn(4) == 0 {
		n = -n - 1
	}
	return n
}

// anyList returns a list of up to 50 elements.
func anyList[T any](r *rand.Rand, element func(*rand.Rand) T) []T {
	l := make([]T, r.Intn(pick(r, 2, 3, 5, 50)))
	for i := range l {
		l[i] = element(r)
	}
	return l
}

func anyName(r *rand.Rand) string {
	return pick(r, "a", "b", "c", "o1", "o2", "x", "p", "none", "1", "", "a b", "\n")
}

// anyEvent returns an event of any form, often one with a part from anywhere.
func anyEvent(r *rand.Rand, m model, number int) api.Event {
	e := randomEvent(r, m, number)
	switch r.Intn(10) {
	case 0:
		e.Number = anyInt(r)
	case 1:
		e.Kind = pick(r, "", "none", "station", "price", "order", "meter", "trip", "outage", "restore", "permit", "return", "settle", "undo")
	case 2:
		e.Names = anyList(r, anyName)
	case 3:
		e.Values = anyList(r, anyInt)
	case 4:
		for i := range e.Values {
			e.Values[i] = anyInt(r)
		}
	case 5:
		e.Text = anyName(r)
	}
	return e
}

// P1: every function returns, whatever its arguments are.
func TestAnyEvents(t *testing.T) {
	r := rand.New(rand.NewSource(1001))
	for range 3000 {
		l := randomJournal(r, r.Intn(10))
		m := modelOf(l)
		for range r.Intn(3) {
			l = append(l, anyEvent(r, m, len(l)+1))
		}
		e, tick := anyEvent(r, m, len(l)+1), pick(r, anyInt(r), r.Intn(10))
		books.CheckEvent(e)
		books.Replay(l)
		books.Accepts(l, e)
		books.AsOf(l, tick)
		books.Room(l, anyName(r), tick)
		books.Missing(l, tick)
		books.Bills(l)
		books.Account(l, anyName(r), anyName(r))
		books.Balance(l, anyName(r))
		books.Hour(l, tick)
		books.Losses(l)
		books.Availability(l, anyName(r))
		books.Story(l, anyName(r))
		books.Append(pick(r, logOf(l), "", anyName(r)), e)
	}
}

// P1: the hours of a span that is far too long are not visited.
func TestFarSpans(t *testing.T) {
	l := shown(4)
	for _, line := range []string{"order o2 a b 1 1 999999999 1", "outage y a 1 1 999999999 1", "order o2 a b 1 0 999999999 1", "outage y a 999999999 0 999999999 1"} {
		is(t, line, books.Accepts(l, event(5, line)), api.ErrSpan)
	}
	far := after(shown(9), "return p 5", "settle 999999999 999999999", "order o2 a b 999999999 999999998 999999999 1")
	is(t, "far", books.Accepts(far[:11], far[11]), api.ErrSpan)
	for _, x := range []string{"a", "b"} {
		_, e := books.Availability(far[:11], x)
		is(t, "far", e, api.OK)
	}
	sums, e := books.Hour(far[:11], 999999998)
	is(t, "far", sums, [3]int{})
	is(t, "far", e, api.OK)
}

func anyByte(r *rand.Rand) byte { return "station order undo 0123456789#\n"[r.Intn(31)] }

// P1: every function returns, whatever its arguments are.
func TestAnyStrings(t *testing.T) {
	r := rand.New(rand.NewSource(1002))
	log := logOf(shown(13))
	for range 3000 {
		s := string(anyList(r, func(r *rand.Rand) byte { return byte(r.Intn(256)) }))
		line := string(anyList(r, anyByte))
		bad := []byte(log)
		bad[r.Intn(len(bad))] = anyByte(r)
		for _, text := range []string{s, line, "1 " + line, sealed(line), sealed("1 " + line), log + line, string(bad), string(bad[r.Intn(len(bad)):])} {
			books.Recover(text)
			books.Append(text, event(1, "undo"))
			session, _ := books.Open(text)
			session.Events()
			session.Log()
			session.Do(text)
			session.Do(line)
		}
		session := books.New()
		for range 5 {
			session.Do(pick(r, "station ", "missing", "rate ", "undo", "settle 1") + s)
			session.Do(line)
		}
		var zero books.Session
		zero.Do(line)
		zero.Events()
		zero.Log()
	}
}

// roomy returns events with the same lists, behind which there is room for more.
func roomy(l []api.Event) []api.Event {
	copied := make([]api.Event, 0, len(l)+5)
	for _, e := range l {
		e.Names = append(make([]string, 0, 9), e.Names...)
		e.Values = append(make([]int, 0, 9), e.Values...)
		copied = append(copied, e)
	}
	return copied
}

// spoiled spoils events, also behind the ends of their lists.
func spoiled(l []api.Event) {
	for _, e := range l {
		clear(e.Names[:cap(e.Names)])
		clear(e.Values[:cap(e.Values)])
	}
	clear(l[:cap(l)])
}

// isRoomy fails a test if events, or the room behind their lists, are changed.
func isRoomy(t *testing.T, what string, l, want []api.Event) {
	t.Helper()
	isEvents(t, what, l, want)
	isEvents(t, what, l[len(l):cap(l)], make([]api.Event, cap(l)-len(l)))
	for _, e := range l {
		isList(t, what, e.Names[len(e.Names):cap(e.Names)], make([]string, cap(e.Names)-len(e.Names)))
		isList(t, what, e.Values[len(e.Values):cap(e.Values)], make([]int, cap(e.Values)-len(e.Values)))
	}
}

// P10.1, P10.2, P10.3: events share no memory with what is computed of them, and are not
// changed.
func TestMemoryOfEvents(t *testing.T) {
	want := shown(13)
	l := roomy(want)
	first, _ := books.Story(l, "b")
	spoiled(first)
	isRoomy(t, "Story", l, want)
	second, _ := books.Story(l, "b")
	isEvents(t, "Story", second, modelOf(want).story("b"))
	register, _, _ := books.Replay(l)
	then, _ := books.AsOf(l, 99)
	for _, r := range []books.Register{register, then} {
		clear(r.Stations[:cap(r.Stations)])
		clear(r.Orders[:cap(r.Orders)])
		clear(r.Meters[:cap(r.Meters)])
		clear(r.Outages[:cap(r.Outages)])
		clear(r.Permits[:cap(r.Permits)])
		isRoomy(t, "Replay", l, want)
	}
	isReplay(t, "again", l, modelOf(want).register())
	gaps, _ := books.Missing(l[:6], 99)
	clear(gaps[:cap(gaps)])
	bills, _ := books.Bills(l)
	clear(bills[:cap(bills)])
	books.Accepts(l, event(14, "undo"))
	books.Account(l, "a", "b")
	books.Balance(l, "a")
	books.Availability(l, "a")
	books.Room(l, "a", 3)
	books.Hour(l, 3)
	books.Losses(l)
	isRoomy(t, "questions", l, want)
	log, _ := books.Append(logOf(l), event(14, "undo"))
	is(t, "Append", log, logOf(after(want, "undo")))
	isRoomy(t, "Append", l, want)
	recovered, _, _ := books.Recover(logOf(want))
	spoiled(recovered)
	isRecovered(t, logOf(want), want, len(logOf(want)), api.OK)
}

// P10.1: the register is as it was when events are changed later.
func TestMemoryOfArguments(t *testing.T) {
	l := roomy(shown(13))
	register, _, _ := books.Replay(l)
	then, _ := books.AsOf(l, 99)
	story, _ := books.Story(l, "b")
	spoiled(l)
	isRegister(t, "Replay", register, modelOf(shown(13)).register())
	isRegister(t, "AsOf", then, modelOf(shown(13)).register())
	isEvents(t, "Story", story, modelOf(shown(13)).story("b"))
}

// P10.4: events of a session share no memory with it, nor with those of another one.
func TestMemoryOfSessions(t *testing.T) {
	s, twin := opened(t, shown(10)), opened(t, shown(10))
	spoiled(s.Events())
	isEvents(t, "the session", s.Events(), shown(10))
	isDone(t, s, "return p 6", "done 11", api.OK)
	isDone(t, s, "undo", "done 12", api.OK)
	isDone(t, twin, "price b 9 9", "done 11", api.OK)
	isEvents(t, "the session", s.Events(), after(shown(10), "return p 6", "undo"))
	isEvents(t, "the twin", twin.Events(), after(shown(10), "price b 9 9"))
	isAnswered(t, s, after(shown(10), "return p 6", "undo"))
	isAnswered(t, twin, after(shown(10), "price b 9 9"))
	is(t, "the log", strings.HasPrefix(twin.Log(), logOf(shown(10))), true)
	events := s.Events()
	isDone(t, s, "price b 9 9", "done 13", api.OK)
	isEvents(t, "earlier events", events, after(shown(10), "return p 6", "undo"))
	is(t, "other events", slices.IndexFunc(s.Events(), func(e api.Event) bool { return e.Number == 13 }), 12)
}
