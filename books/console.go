package books

import (
	"slices"
	"strconv"
	"strings"

	"bipole/api"
	"bipole/check"
	"bipole/list"
	"bipole/text"
)

// doneWord is the first word of the result of a line that is an event, noneWord is an
// empty result.
const (
	doneWord = "done"
	noneWord = "none"
)

// Session is a console.
type Session struct {
	history
}

// New returns a session without events.
func New() *Session {
	return &Session{}
}

// Open returns the session with a log.
func Open(log string) (*Session, api.Errno) {
	l, _, bad := Recover(log)
	if bad != api.OK && bad != api.ErrTorn {
		return nil, bad
	}
	h, _, bad := historyOf(l)
	if bad != api.OK {
		return nil, bad
	}
	return &Session{history: h}, api.OK
}

// Events returns the events.
func (s *Session) Events() []api.Event {
	if s == nil {
		return nil
	}
	return list.Mapped(s.events, func(e api.Event) api.Event { return copied(e, e.Number) })
}

// Log returns the log of the events.
func (s *Session) Log() string {
	if s == nil {
		return ""
	}
	return logOf(s.events)
}

// Do executes a line, and returns its result.
func (s *Session) Do(line string) (string, api.Errno) {
	if s == nil {
		return "", api.ErrState
	}
	bad := check.First(
		check.That(len(line) <= api.MaxText, api.ErrLong),
		check.That(line != "", api.ErrSyntax))
	if bad != api.OK {
		return "", bad
	}
	all, rest := allKinds(), text.Words(line)
	first := rest.Word()
	if _, known := all[first]; known {
		return s.enter(all, first, rest)
	}
	if q, known := questions()[first]; known {
		return q.answered(s.register(), rest)
	}
	return "", api.ErrKind
}

// enter adds the event of a kind whose Names and Values are the rest of a line.
func (s *Session) enter(all kinds, word string, rest *text.Line) (string, api.Errno) {
	e := api.Event{Number: s.next(), Kind: word}
	e.Names, e.Values = all[word].words(rest)
	bad := check.First(
		check.That(rest.IsDone(), api.ErrSyntax),
		check.That(len(s.events) < api.MaxEvents, api.ErrMany),
		s.check(all, e))
	if bad != api.OK {
		return "", bad
	}
	s.add(all, e)
	return doneWord + " " + strconv.Itoa(e.Number), api.OK
}

// question is what the words of a question behind its first one name, and what the
// answer to it is.
type question struct {
	names  []thing
	answer func(r Register, names []string) []string
}

// questions returns the questions by their first words.
func questions() map[string]question {
	station, order := thingOf(Register.station, Station.isAbout), thingOf(Register.order, Order.isAbout)
	return map[string]question{
		"balance": {names: []thing{station}, answer: balanceWords},
		"rate":    {names: []thing{station}, answer: rateWords},
		"bill":    {names: []thing{order}, answer: billWords},
		"missing": {answer: missingWords},
		"outages": {answer: outageWords},
		"permits": {answer: permitWords},
		"settled": {answer: settledWords},
	}
}

// answered returns the answer to a question that is the rest of a line.
func (q question) answered(r Register, rest *text.Line) (string, api.Errno) {
	names := namesIn(rest, len(q.names))
	bad := check.First(
		check.That(rest.IsDone(), api.ErrSyntax),
		checkKnown(r, q.names, names))
	if bad != api.OK {
		return "", bad
	}
	words := q.answer(r, names)
	if len(words) == 0 {
		return noneWord, api.OK
	}
	return strings.Join(words, " "), api.OK
}

func balanceWords(r Register, names []string) []string {
	return []string{strconv.Itoa(r.balance(names[0]))}
}

func rateWords(r Register, names []string) []string {
	x, _ := r.station(names[0])
	return []string{strconv.Itoa(x.Price)}
}

func billWords(r Register, names []string) []string {
	x, _ := r.order(names[0])
	b := r.bill(x, r.settled())
	return list.Mapped([]int{b.Hours, b.Sent, b.Got, b.Money, b.Fine}, strconv.Itoa)
}

// missingWords returns the hours that are missing up to the tick of a register: the
// first MaxList of them.
func missingWords(r Register, _ []string) []string {
	gaps := slices.Collect(r.missing(r.Tick))
	var words []string
	for _, gap := range gaps[:min(len(gaps), api.MaxList)] {
		words = append(words, gap.Order, strconv.Itoa(gap.Hour))
	}
	return words
}

func outageWords(r Register, _ []string) []string {
	now := list.Filtered(r.Outages, func(x Outage) bool { return has(x.Span, r.Tick) })
	return list.Mapped(now, Outage.name)
}

func permitWords(r Register, _ []string) []string {
	return list.Mapped(r.openPermits(), Permit.name)
}

func settledWords(r Register, _ []string) []string {
	return []string{strconv.Itoa(r.Settled)}
}
