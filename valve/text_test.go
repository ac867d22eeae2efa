package valve_test

import (
	"fmt"
	"strconv"
	"strings"
	"testing"

	"bipole/api"
	"bipole/valve"
)

const text = "log 2\npulse 2 1\npulse 4 5\n"

// P7.2
func TestTexts(t *testing.T) {
	for s, l := range map[string]valve.Log{
		text:                                   c(),
		"log 0\n":                              {},
		"log 255\n":                            logOf(255, nil),
		"log 10\npulse 0 0\n":                  logOf(10, train(0, 0)),
		"log 7\npulse 9 10\npulse 10 9\n":      logOf(7, train(9, 10, 9)),
		"log 100\npulse 100000 4095\n":         logOf(100, train(100000, 4095)),
		"log 0\n" + linesOf(longTrain(1, 256)): logOf(0, longTrain(1, 256)),
	} {
		printed, e := valve.Print(l)
		is(t, "printed", printed, s)
		is(t, "printed", e, api.OK)
		parsed, at, e := valve.Parse(s)
		isLog(t, s, parsed, l)
		is(t, s+": index", at, 0)
		is(t, s+": error", e, api.OK)
	}
	eachBadLog(func(what string, l valve.Log, want api.Errno) {
		s, e := valve.Print(l)
		is(t, what, s, "")
		is(t, what, e, want)
	})
}

// linesOf returns the lines of pulses.
func linesOf(l []valve.Pulse) string {
	s := ""
	for _, p := range l {
		s += fmt.Sprintln("pulse", p.Tick, p.Pulses)
	}
	return s
}

// P7.2: the text of a log has no limit, but what is parsed has one.
func TestLongTexts(t *testing.T) {
	l := longTrain(99745, 256)
	for i := range l {
		l[i].Pulses = 4095
	}
	s, e := valve.Print(logOf(255, l))
	is(t, "a long text", s, "log 255\n"+linesOf(l))
	is(t, "a long text", e, api.OK)
	notParsed(t, s, 0, api.ErrLong)
}

// notParsed fails a test if a text does not have an error at an index.
func notParsed(t *testing.T, s string, index int, want api.Errno) {
	t.Helper()
	l, at, e := valve.Parse(s)
	what := strconv.Quote(s[:min(len(s), 120)])
	isLog(t, what, l, valve.Log{})
	is(t, what+": index", at, index)
	is(t, what+": error", e, want)
}

// P7.2: each line has its form, and no other one.
func TestParseOfNoText(t *testing.T) {
	notParsed(t, "", 0, api.ErrSyntax)
	bad := []string{"\n", " ", " \n", "x", "x 1\n", "x 1 2\n", "\r\n", "\x00\n"}
	forms := []string{"log 2\n", "pulse 2 1\n", "pulse 4 5\n"}
	for i, form := range forms {
		word, integers, _ := strings.Cut(strings.TrimSuffix(form, "\n"), " ")
		own := append([]string{
			form[:len(form)-1], word, word + "\n", word + " \n", word + " 1 2 3\n", " " + form, word + "  " + integers + "\n", word + " " + integers + " \n", word + " " + integers + "\r\n", word + "\t" + integers + "\n",
			strings.ToUpper(form), word[1:] + " " + integers + "\n", word + "s " + integers + "\n", integers + " " + word + "\n", integers + "\n", word + integers + "\n", word + " " + strings.Replace(integers, " ", ",", 1) + "x\n", word + " a\n", word + " 1 a\n", word + " " + word + "\n",
			[]string{"log 1 2\n", "pulse 1\n"}[min(i, 1)], []string{"pulse 1 2\n", "log 1\n"}[min(i, 1)], []string{"pulse 1\n", "log 1 2\n"}[min(i, 1)],
		}, bad...)
		for _, s := range own {
			before := strings.Join(forms[:i], "")
			notParsed(t, before+s, i, api.ErrSyntax)
			if strings.HasSuffix(s, "\n") {
				notParsed(t, before+s+strings.Join(forms[i+1:], ""), i, api.ErrSyntax)
				notParsed(t, before+s+s, i, api.ErrSyntax)
			}
		}
	}
	notParsed(t, text+"log 2\n", 3, api.ErrSyntax)
	notParsed(t, text+text, 3, api.ErrSyntax)
	notParsed(t, text+"\n", 3, api.ErrSyntax)
	notParsed(t, text+"pulse 9 9", 3, api.ErrSyntax)
	notParsed(t, text+"pulse 9 9\n\n", 4, api.ErrSyntax)
}

// P7.2: integers are digits alone and have one way to be written, at each place.
func TestParseIntegers(t *testing.T) {
	for i, form := range []string{"log %s\n", "log 0\npulse %s 6\n", "log 0\npulse 6 %s\n"} {
		index := min(i, 1)
		for _, word := range []string{"-", "-0", "-1", "+1", "00", "01", "-01", "--1", "1-", "000000000", "1.0", "1e1", "0x1", "1_0", "a", "1a", "a1", "٣", "1\x00", "\t1", "/", ":", "\xff", "1000000000", "-1000000000", "0000000001", "9999999999", "99999999999999999999999"} {
			notParsed(t, fmt.Sprintf(form, word), index, api.ErrSyntax)
			notParsed(t, fmt.Sprintf(form, word)+"pulse 7 7\n", index, api.ErrSyntax)
		}
		for _, word := range []string{"999999999", "100001"} {
			s := fmt.Sprintf(form, word) + "pulse 0 1\n"
			notParsed(t, s, strings.Count(s, "\n"), api.ErrRange)
		}
		for _, n := range []int{0, 1, 2, 9, 10, 97, 255} {
			l, _, e := valve.Parse(fmt.Sprintf(form, strconv.Itoa(n)))
			is(t, form, e, api.OK)
			p := append(l.Train, valve.Pulse{})[0]
			is(t, form, []int{l.Controller, p.Tick, p.Pulses}[i], n)
		}
	}
}

// P7.2: the errors of the log come with the number of lines.
func TestParseOfNoLog(t *testing.T) {
	many := "log 256\n" + strings.Repeat("pulse 1 1\n", 257)
	for _, x := range []struct {
		s  string
		at int
		e  api.Errno
	}{
		{"log 256\n", 1, api.ErrRange}, {"log 1\npulse 1 4096\n", 2, api.ErrRange}, {"log 1\npulse 100001 1\n", 2, api.ErrRange}, {"log 1\npulse 2 1\npulse 1 1\n", 3, api.ErrOrder}, {"log 1\npulse 2 1\npulse 2 1\npulse 3 4096\n", 4, api.ErrOrder}, {"log 1\npulse 2 1\npulse 2 4096\n", 3, api.ErrRange}, {"log 256\npulse 2 1\npulse 2 1\n", 3, api.ErrRange},
		{many, 258, api.ErrRange}, {strings.Replace(many, "256", "255", 1), 258, api.ErrMany}, {many + "pulse 1\n", 258, api.ErrSyntax}, {many + "pulse 1 1", 258, api.ErrSyntax},
	} {
		notParsed(t, x.s, x.at, x.e)
	}
}

// P7.2
func TestParseOfLongText(t *testing.T) {
	notParsed(t, text+strings.Repeat("x", 4096-len(text)), 3, api.ErrSyntax)
	notParsed(t, text+strings.Repeat("x", 4097-len(text)), 0, api.ErrLong)
	notParsed(t, strings.Repeat("\n", 4096), 0, api.ErrSyntax)
	notParsed(t, strings.Repeat("\n", 4097), 0, api.ErrLong)
	// 256 lines of 16 bytes, less those of the first line and of a shorter pulse.
	exact := "log 22\n" + linesOf(longTrain(90000, 256))
	for at := 90255; len(exact) < 4096; at-- {
		longer := min(4096-len(exact), 3)
		exact = strings.Replace(exact, fmt.Sprint(at, " 0"), fmt.Sprint(at, " 1", strings.Repeat("0", longer)), 1)
	}
	l, at, e := valve.Parse(exact)
	is(t, "4096 bytes", e, api.OK)
	is(t, "4096 bytes", at, 0)
	is(t, "4096 bytes", len(l.Train), 256)
	notParsed(t, strings.Replace(exact, "log 22", "log 222", 1), 0, api.ErrLong)
}
