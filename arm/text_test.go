package arm_test

import (
	"fmt"
	"strconv"
	"strings"
	"testing"

	"bipole/api"
	"bipole/arm"
)

const text = "arm 100 200 20 2\nmodule a 120 on\nmodule b 150 off\nmodule c 110 off\nmodule d 180 bypassed\n"

// P2.5
func TestPrint(t *testing.T) {
	s, e := arm.Print(shown())
	is(t, "the example", s, text)
	is(t, "the example", e, api.OK)
	long := strings.Repeat("x", 24)
	a := arm.Arm{Modules: []arm.Module{{Name: long, Charge: 16384, Bypassed: true}}, Current: 1000, Limit: 16}
	s, e = arm.Print(a)
	is(t, "the longest words", s, "arm 0 0 1000 16\nmodule "+long+" 16384 bypassed\n")
	is(t, "the longest words", e, api.OK)
}

// P2.5
func TestParse(t *testing.T) {
	for _, x := range []struct {
		s string
		a arm.Arm
	}{
		{text, shown()},
		{"arm 0 0 0 0\nmodule m 0 on\n", arm.Arm{Modules: []arm.Module{{Name: "m", On: true}}}},
		{"arm 0 16384 1000 16\nmodule A_9 16384 off\n", arm.Arm{Modules: []arm.Module{{Name: "A_9", Charge: 16384}}, Band: api.Interval{High: 16384}, Current: 1000, Limit: 16}},
		{"arm 7 7 1 1\nmodule module 0 bypassed\nmodule on 7 on\n", arm.Arm{Modules: []arm.Module{{Name: "module", Bypassed: true}, {Name: "on", Charge: 7, On: true}}, Band: api.Interval{Low: 7, High: 7}, Current: 1, Limit: 1}},
	} {
		a, at, e := arm.Parse(x.s)
		isArm(t, x.s, a, x.a)
		is(t, x.s+": index", at, 0)
		is(t, x.s+": error", e, api.OK)
	}
}

// notParsed fails a test if a text does not have an error at an index.
func notParsed(t *testing.T, s string, index int, want api.Errno) {
	t.Helper()
	a, at, e := arm.Parse(s)
	what := strconv.Quote(s[:min(len(s), 120)])
	isArm(t, what, a, arm.Arm{})
	is(t, what+": index", at, index)
	is(t, what+": error", e, want)
}

// P2.5
func TestParseOfNoText(t *testing.T) {
	const first, second = "arm 100 200 20 2\n", "module a 120 on\n"
	for _, x := range []struct {
		s  string
		at int
	}{
		{"", 0}, {"\n", 0}, {" ", 0}, {"\n" + text, 0}, {" " + text, 0}, {second, 0}, {second + first, 0}, {"arm", 0}, {"arm\n", 0}, {"arm 100 200 20 2", 0}, {"Arm 100 200 20 2\n", 0}, {"arms 100 200 20 2\n", 0},
		{"arm 100 200 20\n", 0}, {"arm 100 200 20 \n", 0}, {"arm 100 200 20 2 \n", 0}, {"arm 100 200 20 2 2\n", 0}, {"arm  100 200 20 2\n", 0}, {"arm 100\t200 20 2\n", 0}, {"arm 100 200 20 2\r\n", 0}, {"100 200 20 2\n", 0}, {" 100 200 20 2\n", 0},
		{"module 100 200 20 2\n", 0}, {"arm a 120 on\n", 0},
		{text + "\n", 5}, {text + " ", 5}, {text + "x", 5}, {text + first, 5}, {first + "\n" + second, 1}, {first + first, 1}, {first + "module a 120 on", 1}, {first + second + "module b 120 on", 2},
		{first + "module a 120\n", 1}, {first + "module a 120 \n", 1}, {first + "module a 120 on \n", 1}, {first + "module a 120 on on\n", 1}, {first + "module a  on\n", 1}, {first + "module  120 on\n", 1}, {first + "module 120 on\n", 1}, {first + " module a 120 on\n", 1}, {first + "module a\n", 1}, {first + "module\n", 1}, {first + " a 120 on\n", 1},
		{first + "module a 120 On\n", 1}, {first + "module a 120 bypass\n", 1}, {first + "module a 120 open\n", 1}, {first + "module a on 120\n", 1}, {first + "Module a 120 on\n", 1}, {first + "arm a 120 on\n", 1}, {first + second + "module a 120 1\n", 2}, {first + "module a 120 on\r\n", 1}, {first + "module a 120\ton\n", 1},
		{first + "module 1 x on\nmodule\n", 1}, {"arm 16385 0 0 0\nmodule a x on\n", 1},
	} {
		notParsed(t, x.s, x.at, api.ErrSyntax)
	}
	for at := range strings.Count(text, "\n") {
		lines := strings.SplitAfter(text, "\n")
		lines[at] = "x" + lines[at]
		notParsed(t, strings.Join(lines, ""), at, api.ErrSyntax)
		notParsed(t, strings.Join(lines, "")+"x", at, api.ErrSyntax)
	}
}

// P2.5: integers have one way to be written, at each place.
func TestParseIntegers(t *testing.T) {
	bad := []string{"", "-", "-1", "-0", "+1", "00", "01", "007", "000000000", "1.0", "1e1", "0x1", "1_0", "a", "1a", "a1", "٣", "1\x00", "\t1", "/", ":", "\xff", "1000000000", "0000000001", "9999999999", "99999999999999999999999"}
	for place := 1; place <= 4; place++ {
		words := strings.Fields("arm 0 16384 20 2")
		for _, word := range bad {
			words[place] = word
			notParsed(t, strings.Join(words, " ")+"\nmodule a 9 on\n", 0, api.ErrSyntax)
		}
		words[place] = "999999999"
		notParsed(t, strings.Join(words, " ")+"\nmodule a 9 on\n", 2, api.ErrRange)
	}
	for _, word := range bad {
		notParsed(t, "arm 0 16384 20 2\nmodule a "+word+" on\n", 1, api.ErrSyntax)
	}
	notParsed(t, "arm 0 16384 20 2\nmodule a 999999999 on\n", 2, api.ErrRange)
	for _, n := range []int{0, 1, 9, 10, 100, 1234, 16384} {
		a, _, e := arm.Parse(fmt.Sprint("arm 0 16384 20 2\nmodule a ", n, " on\n"))
		is(t, fmt.Sprint(n), e, api.OK)
		isList(t, fmt.Sprint(n), a.Modules, []arm.Module{{Name: "a", Charge: n, On: true}})
	}
}

// P2.5: the errors of the arm come with the number of lines.
func TestParseOfNoArm(t *testing.T) {
	for _, x := range []struct {
		s  string
		at int
		e  api.Errno
	}{
		{"arm 100 200 20 2\n", 1, api.ErrEmpty},
		{"arm 200 100 20 2\nmodule a 120 on\n", 2, api.ErrOrder},
		{"arm 16385 200 20 2\nmodule a 120 on\n", 2, api.ErrRange},
		{"arm 100 200 1001 2\nmodule a 120 on\n", 2, api.ErrRange},
		{"arm 100 200 20 17\nmodule a 120 on\n", 2, api.ErrRange},
		{"arm 100 200 20 2\nmodule a 120 on\nmodule a-b 120 on\n", 3, api.ErrName},
		{"arm 100 200 20 2\nmodule 1 120 on\n", 2, api.ErrName},
		{"arm 100 200 20 2\nmodule a\tb 120 on\n", 2, api.ErrName},
		{"arm 100 200 20 2\nmodule \xff 120 on\n", 2, api.ErrName},
		{"arm 100 200 20 2\nmodule a 120 on\nmodule b 120 on\nmodule a 120 on\n", 4, api.ErrTwice},
		{"arm 100 200 20 2\nmodule a 16385 bypassed\n", 2, api.ErrRange},
		{"arm 100 200 20 2\nmodule a 99 off\nmodule b 120 on\n", 3, api.ErrBand},
		{"arm 100 200 20 2\n" + strings.Repeat("module a 120 on\n", 17), 18, api.ErrMany},
		{"arm 100 200 20 2\n" + strings.Repeat("module a 120 on\n", 16), 17, api.ErrTwice},
		{"arm 100 200 20 2\n" + strings.Repeat("module a 120 on\n", 200), 201, api.ErrMany},
	} {
		notParsed(t, x.s, x.at, x.e)
	}
}

// P2.5
func TestParseOfLongText(t *testing.T) {
	const first = "arm 100 200 20 2\n"
	line := func(bytes int) string {
		return first + "module " + strings.Repeat("a", bytes-len(first)-15) + " 120 on\n"
	}
	is(t, "bytes of the longest text", len(line(4096)), 4096)
	notParsed(t, line(4096), 2, api.ErrName)
	notParsed(t, line(4097), 0, api.ErrLong)
	notParsed(t, strings.Repeat("\n", 4096), 0, api.ErrSyntax)
	notParsed(t, strings.Repeat("\n", 4097), 0, api.ErrLong)
	notParsed(t, first+strings.Repeat("x", 5000), 0, api.ErrLong)
	notParsed(t, text+strings.Repeat(" ", 4096-len(text)), 5, api.ErrSyntax)
}
