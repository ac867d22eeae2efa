package books_test

import (
	"fmt"
	"math/rand"
	"slices"
	"strconv"
	"strings"
	"testing"

	"bipole/api"
	"bipole/books"
)

// sumOf returns the checksum of a string, by the definition.
func sumOf(s string) string {
	x := 1
	for _, b := range []byte(s) {
		x = (341*x + int(b)) % 9999721
	}
	return fmt.Sprintf("%07d", x)
}

// sealed returns bodies with their checksums, as lines.
func sealed(bodies ...string) string {
	s := ""
	for _, body := range bodies {
		s += body + "#" + sumOf(body) + "\n"
	}
	return s
}

// logOf returns the log of events.
func logOf(l []api.Event) string {
	s := ""
	for _, e := range l {
		words := []string{strconv.Itoa(e.Number), e.Kind}
		words = append(words, e.Names...)
		for _, n := range e.Values {
			words = append(words, strconv.Itoa(n))
		}
		s += sealed(strings.Join(words, " "))
	}
	return s
}

// isRecovered fails a test if what is recovered of a log is not as expected.
func isRecovered(t *testing.T, log string, want []api.Event, length int, bad api.Errno) {
	t.Helper()
	l, n, e := books.Recover(log)
	what := "recovered from " + brief(strconv.Quote(log))
	isEvents(t, what, l, want)
	is(t, what, n, length)
	is(t, what, e, bad)
}

// P10.3: the checksums of the chapter's examples.
func TestChecksums(t *testing.T) {
	for body, sum := range map[string]string{"": "0000001", "1": "0000390", "11": "0133039"} {
		is(t, "the checksum of "+body, sumOf(body), sum)
		isRecovered(t, body+"#"+sum+"\n", nil, 0, api.ErrSyntax)
		isRecovered(t, body+"#"+sum[:6]+string(sum[6]^1)+"\n", nil, 0, api.ErrCheck)
	}
	log, e := books.Append("", event(1, "undo"))
	is(t, "the record of an undo", log, "1 undo#"+sumOf("1 undo")+"\n")
	is(t, "the record of an undo", e, api.OK)
}

// P10.3: a log is appended record by record, and recovered.
func TestLogs(t *testing.T) {
	wide := api.Event{Number: 12, Kind: "order", Names: []string{"abcdefghijklmnopqrstuvwx", "Z_", "a9"}, Values: []int{0, 999999999, 10, 100000000}}
	log := ""
	l := append(journal(examples...), wide)
	for i, e := range l {
		next, bad := books.Append(log, e)
		is(t, "append", bad, api.OK)
		is(t, "append", next, logOf(l[:i+1]))
		isRecovered(t, next, l[:i+1], len(next), api.OK)
		log = next
	}
	isRecovered(t, "", nil, 0, api.OK)
	isRecovered(t, logOf(shown(13)), shown(13), len(logOf(shown(13))), api.OK)
	full := logOf(long(1000))
	isRecovered(t, full, long(1000), len(full), api.OK)
	isRecovered(t, full+sealed("1001 undo"), long(1000), len(full), api.ErrSyntax)
	isRecovered(t, full+sealed("1000 undo"), long(1000), len(full), api.ErrOrder)
}

// P10.3: a prefix is recovered, with the error of the first line of the rest.
func TestRecoverErrors(t *testing.T) {
	start := logOf(shown(3))
	for rest, want := range map[string]api.Errno{
		"x": api.ErrTorn, "#": api.ErrTorn, "4 undo#" + sumOf("4 undo"): api.ErrTorn, "4": api.ErrTorn, "\x00": api.ErrTorn,
		"\n": api.ErrSyntax, "#\n": api.ErrSyntax, "4 undo\n": api.ErrSyntax, "1234567\n": api.ErrSyntax, "4 undo#\n": api.ErrSyntax, "4 undo#123456\n": api.ErrSyntax, "4 undo#12345678\n": api.ErrSyntax, "4 undo#123456a\n": api.ErrSyntax, "4 undo#a123456\n": api.ErrSyntax, "4 undo#-123456\n": api.ErrSyntax, "4 undo#12345٣\n": api.ErrSyntax, "4 undo#1234567\r\n": api.ErrSyntax, "4 undo#" + sumOf("4 undo") + " \n": api.ErrSyntax, "4 undo$" + sumOf("4 undo") + "\n": api.ErrSyntax, "4 undo#/123456\n": api.ErrSyntax, "4 undo#:123456\n": api.ErrSyntax,
		"4 undo#0000000\n": api.ErrCheck, "4 undo#9999999\n": api.ErrCheck, "#0000000\n": api.ErrCheck, "none#0000001\n": api.ErrCheck, "##0000001\n": api.ErrCheck, "5 undo#" + sumOf("4 undo") + "\n": api.ErrCheck, "4 undo##" + sumOf("4 undo") + "\n": api.ErrCheck, "1#0000390#0000390\n": api.ErrCheck,
		sealed("4 undo") + "x": api.ErrTorn, sealed("4 undo", "4 undo"): api.ErrOrder, sealed("4 undo", "5  undo"): api.ErrSyntax, "x\n" + sealed("4 undo"): api.ErrSyntax, sealed("5 undo") + "x": api.ErrOrder, sealed("5 none"): api.ErrSyntax,
	} {
		l, length := shown(3), len(start)
		if strings.HasPrefix(rest, sealed("4 undo")) {
			l, length = after(l, "undo"), length+len(sealed("4 undo"))
		}
		isRecovered(t, start+rest, l, length, want)
	}
	isRecovered(t, start[strings.Index(start, "\n")+1:], nil, 0, api.ErrOrder)
	isRecovered(t, sealed("0 undo"), nil, 0, api.ErrSyntax)
	isRecovered(t, sealed("1 undo", "1 undo"), journal("undo"), len(sealed("1 undo")), api.ErrOrder)
	isRecovered(t, sealed("1 undo", "3 undo"), journal("undo"), len(sealed("1 undo")), api.ErrOrder)
}

// P10.3: what is no body of an event, beside a right checksum.
func TestBodies(t *testing.T) {
	for _, body := range []string{
		"", " ", "1", "1 ", " 1", "undo", "1 undo ", " 1 undo", "1  undo", "1 undo 5", "1 undo#", "1 undo#0000001", "01 undo", "-1 undo", "+1 undo", "1.0 undo", "a undo", "0 undo", "1001 undo", "1000000000 undo", "99999999999999999999 undo", "1 none", "1 Undo", "1 ", "1\tundo", "٣ undo", "1 undo\r",
		"1 station a 0", "1 station a 0 1 2", "1 station 0 1", "1 station a b 0 1", "1 station a 0 1 ", "1 station a  0 1", "1 station a 0 01", "1 station a 00 1", "1 station a 0 -1", "1 station a 0 +1", "1 station a 0 1000000000", "1 station a 0 0999999999", "1 station a 0 x", "1 station 1 0 1", "1 station a- 0 1", "1 station abcdefghijklmnopqrstuvwxy 0 1", "1 station a\x00 0 1", "1 station a 0 1 x", "1 station  0 1", "1 settle 0", "1 settle a 0 1", "1 order o a 0 0 1 1", "1 order o a b 0 0 1",
	} {
		isRecovered(t, sealed(body), nil, 0, api.ErrSyntax)
		isRecovered(t, sealed("1 undo", body), journal("undo"), len(sealed("1 undo")), api.ErrSyntax)
	}
	for _, body := range []string{"1 undo", "1 station a 0 0", "1 station a 999999999 999999999", "1 price none 0 5", "1 settle 9 0", "1 return undo 7", "1 order o a a 5 4 3 0"} {
		l, n, e := books.Recover(sealed(body))
		isEvents(t, body, l, []api.Event{event(1, body[2:])})
		is(t, body, n, len(sealed(body)))
		is(t, body, e, api.OK)
	}
}

// P10.3: at most MaxLog bytes are read.
func TestLongLogs(t *testing.T) {
	start := logOf(shown(3))
	long := start + strings.Repeat("x", 1000000-len(start))
	isRecovered(t, long, shown(3), len(start), api.ErrTorn)
	isRecovered(t, long+"x", nil, 0, api.ErrLong)
	isRecovered(t, strings.Repeat("\n", 1000000), nil, 0, api.ErrSyntax)
	isRecovered(t, strings.Repeat("\n", 1000001), nil, 0, api.ErrLong)
	line := start + strings.Repeat("x", 1000000-len(start)-1) + "\n"
	isRecovered(t, line, shown(3), len(start), api.ErrSyntax)
	_, e := books.Append(long+"x", event(4, "undo"))
	is(t, "append to a long log", e, api.ErrLong)
}

// P10.3: the error of the log comes first, then that of the event, then its number.
func TestAppendErrors(t *testing.T) {
	log := logOf(shown(3))
	wrong := api.Event{Number: 9, Kind: "trip", Names: []string{"1"}, Values: []int{-1}, Text: "x"}
	for _, x := range []struct {
		log  string
		e    api.Event
		want api.Errno
	}{
		{log + "x", wrong, api.ErrTorn}, {log + "\n", wrong, api.ErrSyntax}, {log + log, wrong, api.ErrOrder}, {log + "#0000000\n", event(4, "undo"), api.ErrCheck}, {"9", event(1, "undo"), api.ErrTorn},
		{log, wrong, api.ErrName}, {log, api.Event{Number: 4, Kind: "none"}, api.ErrKind}, {log, api.Event{Number: 4, Kind: "undo", Text: "x"}, api.ErrForm}, {log, api.Event{}, api.ErrRange}, {log, event(9, "trip o1"), api.ErrShape}, {log, api.Event{Number: 5, Kind: "settle", Values: []int{0, -1}}, api.ErrRange},
		{log, event(3, "undo"), api.ErrOrder}, {log, event(5, "undo"), api.ErrOrder}, {"", event(2, "undo"), api.ErrOrder}, {logOf(long(1000)), event(1001, "undo"), api.ErrRange}, {logOf(long(1000)), event(1000, "undo"), api.ErrOrder},
	} {
		after, e := books.Append(x.log, x.e)
		is(t, fmt.Sprint("append ", x.e), after, "")
		is(t, fmt.Sprint("append ", x.e), e, x.want)
	}
	for _, line := range []string{"undo", "trip none 0", "order o o o 5 4 3 0"} { // whether they are accepted is not asked for
		after, e := books.Append(log, event(4, line))
		is(t, line, after, log+logOf([]api.Event{event(4, line)}))
		is(t, line, e, api.OK)
	}
}

// longest returns the longest prefix of a string that is a log, and its events, by trying
// all of them.
func longest(s string) ([]api.Event, int) {
	for n := len(s); n > 0; n-- {
		if l, isLog := eventsIn(s[:n]); isLog {
			return l, n
		}
	}
	return nil, 0
}

// eventsIn returns the events of a log, and whether a string is one: that of events which
// its lines name.
func eventsIn(s string) ([]api.Event, bool) {
	var l []api.Event
	for _, line := range strings.SplitAfter(s, "\n") {
		if line == "" {
			continue
		}
		body, _, _ := strings.Cut(line, "#")
		_, words, _ := strings.Cut(body, " ")
		if strings.TrimSpace(words) == "" {
			return nil, false
		}
		e := event(len(l)+1, words)
		if books.CheckEvent(e) != api.OK {
			return nil, false
		}
		l = append(l, e)
	}
	return l, logOf(l) == s
}

// P10.3: the longest prefix that is a log is recovered, whatever is changed.
func TestRandomLogs(t *testing.T) {
	r := rand.New(rand.NewSource(1031))
	seen := map[api.Errno]int{}
	for range 100 {
		log := logOf(randomJournal(r, 20))
		for range 10 {
			bytes := []byte(log)
			for range r.Intn(3) {
				if len(bytes) > 0 {
					bytes[r.Intn(len(bytes))] = "\n# 019az\xff"[r.Intn(9)]
				}
			}
			at, lines := r.Intn(len(bytes)+1), strings.SplitAfter(string(bytes), "\n")
			s := string(bytes)
			switch r.Intn(4) {
			case 0:
				s = s[:at]
			case 1:
				s = s[at:]
			case 2:
				i := r.Intn(len(lines))
				s = strings.Join(slices.Delete(lines, i, i+1), "")
			}
			want, length := longest(s)
			l, n, e := books.Recover(s)
			isEvents(t, brief(s), l, want)
			is(t, brief(s), n, length)
			is(t, brief(s), e == api.OK, n == len(s))
			is(t, brief(s), e == api.ErrTorn, n < len(s) && !strings.Contains(s[n:], "\n"))
			seen[e]++
		}
	}
	for _, e := range []api.Errno{api.OK, api.ErrTorn, api.ErrSyntax, api.ErrCheck, api.ErrOrder} {
		if seen[e] < 40 {
			t.Errorf("the errors are %v", seen)
		}
	}
}
