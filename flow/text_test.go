package flow_test

import (
	"fmt"
	"strconv"
	"strings"
	"testing"

	"bipole/api"
	"bipole/flow"
)

const text = "order 5 20\norder 15 -10\n"

// P5.5
func TestTexts(t *testing.T) {
	longest, lines := most(99969, 1, -1000), ""
	for _, o := range longest {
		lines += fmt.Sprintln("order", o.Tick, o.Power)
	}
	for s, l := range map[string][]flow.Order{
		text:                       market(),
		"":                         nil,
		"order 0 0\n":              orders([2]int{0, 0}),
		"order 0 -1\norder 1 -9\n": orders([2]int{0, -1}, [2]int{1, -9}),
		"order 100000 1000\n":      orders([2]int{100000, 1000}),
		lines:                      longest,
	} {
		printed, e := flow.Print(l)
		is(t, "printed", printed, s)
		is(t, "printed", e, api.OK)
		parsed, at, e := flow.Parse(s)
		isList(t, s, parsed, l)
		is(t, s+": index", at, 0)
		is(t, s+": error", e, api.OK)
	}
	eachBadOrders(func(what string, l []flow.Order, want api.Errno) {
		s, e := flow.Print(l)
		is(t, what, s, "")
		is(t, what, e, want)
	})
}

// notParsed fails a test if a text does not have an error at an index.
func notParsed(t *testing.T, s string, index int, want api.Errno) {
	t.Helper()
	l, at, e := flow.Parse(s)
	what := strconv.Quote(s[:min(len(s), 120)])
	isList(t, what, l, nil)
	is(t, what+": index", at, index)
	is(t, what+": error", e, want)
}

// P5.5
func TestParseOfNoText(t *testing.T) {
	for _, s := range []string{
		"\n", " ", " \n", "x", "order", "order\n", "order \n", "order 5\n", "order 5 \n", "order 5 20", "order 5 20 \n", "order 5 20 1\n", "order  5 20\n", "order 5  20\n", " order 5 20\n", "order\t5\t20\n", "order 5 20\r\n", "\r\n", "order 5 20\n\n",
		"Order 5 20\n", "orders 5 20\n", "orde 5 20\n", "5 20\n", "5 20 order\n", " 5 20\n", "order5 20\n", "order 520\n", "order 5,20\n", "order 5 order\n", "order order 5 20\n", "tick 5 20\n", "\x00order 5 20\n", "order 5 20\x00\n",
	} {
		at := strings.Count(s, "\n") - 1
		at = max(at, 0)
		notParsed(t, s, at, api.ErrSyntax)
		notParsed(t, text+s, 2+at, api.ErrSyntax)
		if strings.HasSuffix(s, "\n") {
			notParsed(t, s+text, at, api.ErrSyntax)
			notParsed(t, text+s+s+text, 2+at, api.ErrSyntax)
			notParsed(t, "order 999999999 0\norder 0 0\n"+s, 2+at, api.ErrSyntax)
		}
	}
}

// P5.5: integers have one way to be written, at each place.
func TestParseIntegers(t *testing.T) {
	for _, form := range []string{"order %s 20\n", "order 15 %s\n"} {
		for _, word := range []string{"-", "-0", "+1", "00", "01", "-01", "-00", "--1", "1-", "000000000", "1.0", "1e1", "0x1", "1_0", "a", "1a", "a1", "٣", "1\x00", "\t1", "/", ":", "\xff", "1000000000", "-1000000000", "0000000001", "9999999999", "99999999999999999999999"} {
			notParsed(t, fmt.Sprintf(form, word), 0, api.ErrSyntax)
			notParsed(t, "order 5 20\n"+fmt.Sprintf(form, word)+"x", 1, api.ErrSyntax)
		}
		for _, word := range []string{"999999999", "-999999999", "100001", "-1001"} {
			notParsed(t, fmt.Sprintf(form, word), 1, api.ErrRange)
		}
	}
	notParsed(t, "order -1 20\n", 1, api.ErrRange)
	notParsed(t, "order 1 1001\n", 1, api.ErrRange)
	for _, n := range []int{-1000, -100, -10, -9, -1, 0, 1, 9, 10, 123, 1000} {
		l, _, e := flow.Parse(fmt.Sprint("order 7 ", n, "\n"))
		isList(t, fmt.Sprint(n), l, orders([2]int{7, n}))
		is(t, fmt.Sprint(n), e, api.OK)
	}
}

// P5.5: the errors of the orders come with the number of lines.
func TestParseOfNoOrders(t *testing.T) {
	for _, x := range []struct {
		s  string
		at int
		e  api.Errno
	}{
		{"order 5 20\norder 5 1\n", 2, api.ErrOrder}, {"order 5 20\norder 4 1\norder 9 0\n", 3, api.ErrOrder},
		{"order 5 1001\norder 5 1\n", 2, api.ErrRange}, {"order 5 1\norder 5 1\norder 5 1001\n", 3, api.ErrOrder}, {"order 5 1\norder 5 1001\n", 2, api.ErrRange},
		{strings.Repeat("order 5 20\n", 32), 32, api.ErrOrder}, {strings.Repeat("order 5 20\n", 33), 33, api.ErrMany}, {strings.Repeat("order 5 2000\n", 33), 33, api.ErrMany}, {strings.Repeat("order 5 20\n", 372), 372, api.ErrMany},
		{strings.Repeat("order 5 20\n", 33) + "order 5\n", 33, api.ErrSyntax},
	} {
		notParsed(t, x.s, x.at, x.e)
	}
}

// P5.5
func TestParseOfLongText(t *testing.T) {
	notParsed(t, text+strings.Repeat("x", 4096-len(text)), 2, api.ErrSyntax)
	notParsed(t, text+strings.Repeat("x", 4097-len(text)), 0, api.ErrLong)
	notParsed(t, strings.Repeat("\n", 4096), 0, api.ErrSyntax)
	notParsed(t, strings.Repeat("\n", 4097), 0, api.ErrLong)
	notParsed(t, strings.Repeat("order 5 20\n", 372)+"abc\n", 372, api.ErrSyntax)
	notParsed(t, strings.Repeat("order 5 20\n", 372)+"abcd\n", 0, api.ErrLong)
	notParsed(t, strings.Repeat("order 5 20\n", 373), 0, api.ErrLong)
}
