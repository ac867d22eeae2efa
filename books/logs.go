package books

import (
	"slices"
	"strconv"
	"strings"

	"bipole/api"
	"bipole/check"
	"bipole/list"
	"bipole/text"
)

// What a checksum is computed with, and the number of its digits.
const (
	sumFactor  = 341
	sumModulus = 9999721
	sumDigits  = 7
)

// sumMark stands between a body and its checksum.
const sumMark = "#"

// checksum returns the checksum of a string.
func checksum(s string) string {
	x := 1
	for i := range len(s) {
		x = (sumFactor*x + int(s[i])) % sumModulus
	}
	digits := strconv.Itoa(x)
	return strings.Repeat("0", sumDigits-len(digits)) + digits
}

// body returns the body of an event.
func body(e api.Event) string {
	words := slices.Concat([]string{strconv.Itoa(e.Number), e.Kind}, e.Names, list.Mapped(e.Values, strconv.Itoa))
	return strings.Join(words, " ")
}

// record returns the record of an event.
func record(e api.Event) string {
	s := body(e)
	return s + sumMark + checksum(s) + "\n"
}

// logOf returns the log of events.
func logOf(l []api.Event) string {
	return strings.Join(list.Mapped(l, record), "")
}

// eventIn returns the event with a body, or ErrSyntax.
func (all kinds) eventIn(body string) (api.Event, api.Errno) {
	line := text.Words(body)
	e := api.Event{Number: line.Number()}
	e.Kind = line.Word()
	e.Names, e.Values = all[e.Kind].words(line)
	if !line.IsDone() || all.check(e) != api.OK {
		return api.Event{}, api.ErrSyntax
	}
	return e, api.OK
}

// recorded returns the event with a record, without the line feed of this, or why there
// is none that has a number.
func (all kinds) recorded(record string, number int) (api.Event, api.Errno) {
	end := max(0, len(record)-sumDigits)
	body, marked := strings.CutSuffix(record[:end], sumMark)
	if !marked || !isDigits(record[end:]) {
		return api.Event{}, api.ErrSyntax
	}
	e, bad := all.eventIn(body)
	bad = check.First(
		check.That(checksum(body) == record[end:], api.ErrCheck),
		bad,
		check.That(e.Number == number, api.ErrOrder))
	if bad != api.OK {
		return api.Event{}, bad
	}
	return e, api.OK
}

// isDigits reports whether a string is digits alone.
func isDigits(s string) bool {
	for _, r := range s {
		if r < '0' || r > '9' {
			return false
		}
	}
	return true
}

// Append returns a log with one more record.
func Append(log string, e api.Event) (string, api.Errno) {
	l, _, bad := Recover(log)
	after := log + record(e)
	bad = check.First(
		bad,
		CheckEvent(e),
		check.That(e.Number == len(l)+1, api.ErrOrder),
		check.That(len(after) <= api.MaxLog, api.ErrLong))
	if bad != api.OK {
		return "", bad
	}
	return after, api.OK
}

// Recover returns the events of the longest prefix that is a log, and its length,
// together with the error of the rest.
func Recover(log string) ([]api.Event, int, api.Errno) {
	if len(log) > api.MaxLog {
		return nil, 0, api.ErrLong
	}
	var l []api.Event
	all, at := allKinds(), 0
	for at < len(log) {
		line, _, ended := strings.Cut(log[at:], "\n")
		if !ended {
			return l, at, api.ErrTorn
		}
		e, bad := all.recorded(line, len(l)+1)
		if bad != api.OK {
			return l, at, bad
		}
		l = append(l, e)
		at += len(line) + 1
	}
	return l, at, api.OK
}
