package loop_test

import (
	"fmt"
	"strconv"
	"strings"
	"testing"

	"bipole/api"
	"bipole/loop"
)

const text = "plantnum 1\nplantden -1 2\ncontrollernum 1\ncontrollerden 1\n"

// P3.5
func TestPrint(t *testing.T) {
	s, e := loop.Print(shown())
	is(t, "the example", s, text)
	is(t, "the example", e, api.OK)
	s, e = loop.Print(of(loop.Poly{50, -100}, loop.Poly{50, 0, 100}, loop.Poly{1}, loop.Poly{1}))
	is(t, "the longest words", s, "plantnum 50 -100\nplantden 50 0 100\ncontrollernum 1\ncontrollerden 1\n")
	is(t, "the longest words", e, api.OK)
	s, e = loop.Print(of(loop.Poly{1, 2}, loop.Poly{1, 0, 3}, loop.Poly{0, 0, -5}, loop.Poly{-1, 1, -7}))
	is(t, "the most words", s, "plantnum 1 2\nplantden 1 0 3\ncontrollernum 0 0 -5\ncontrollerden -1 1 -7\n")
	is(t, "the most words", e, api.OK)
}

// P3.5
func TestParse(t *testing.T) {
	for s, want := range map[string]loop.Loop{
		text: shown(),
		"plantnum -1\nplantden 0 10\ncontrollernum 9\ncontrollerden -10\n":            of(loop.Poly{-1}, loop.Poly{0, 10}, loop.Poly{9}, loop.Poly{-10}),
		"plantnum 1 2\nplantden 1 0 3\ncontrollernum 0 0 -5\ncontrollerden -1 1 -7\n": of(loop.Poly{1, 2}, loop.Poly{1, 0, 3}, loop.Poly{0, 0, -5}, loop.Poly{-1, 1, -7}),
		"plantnum 0 -100\nplantden 50 100 -100\ncontrollernum 1\ncontrollerden 1\n":   of(loop.Poly{0, -100}, loop.Poly{50, 100, -100}, loop.Poly{1}, loop.Poly{1}),
		"plantnum 100\nplantden -100 -100\ncontrollernum 1\ncontrollerden 1\n":        of(loop.Poly{100}, loop.Poly{-100, -100}, loop.Poly{1}, loop.Poly{1}),
		"plantnum -40\nplantden 20 0 1\ncontrollernum 10\ncontrollerden 20 1\n":       of(loop.Poly{-40}, loop.Poly{20, 0, 1}, loop.Poly{10}, loop.Poly{20, 1}),
	} {
		l, at, e := loop.Parse(s)
		isLoop(t, s, l, want)
		is(t, s+": index", at, 0)
		is(t, s+": error", e, api.OK)
	}
}

// notParsed fails a test if a text does not have an error at an index.
func notParsed(t *testing.T, s string, index int, want api.Errno) {
	t.Helper()
	l, at, e := loop.Parse(s)
	what := strconv.Quote(s[:min(len(s), 120)])
	isLoop(t, what, l, loop.Loop{})
	is(t, what+": index", at, index)
	is(t, what+": error", e, want)
}

// P3.5
func TestParseOfNoText(t *testing.T) {
	const a, b, c, d = "plantnum 1\n", "plantden -1 2\n", "controllernum 1\n", "controllerden 1\n"
	for _, x := range []struct {
		s  string
		at int
	}{
		{"\n", 0}, {" ", 0}, {" \n", 0}, {"x", 0}, {"\n" + text, 0}, {" " + text, 0}, {b + a + c + d, 0}, {a + a + c + d, 1}, {a + c, 1}, {a + b + d + c, 2}, {a + b + c + c, 3}, {a + b + c + a, 3},
		{"plantnum\n", 0}, {"plantnum \n", 0}, {"plantnum 1", 0}, {"plantnum 1 \n", 0}, {"plantnum  1\n", 0}, {"plantnum 1  2\n", 0}, {"plantnum\t1\n", 0}, {"plantnum 1\r\n", 0}, {"plantnum 1 x\n", 0}, {"plantnum x\n", 0}, {"1 plantnum\n", 0}, {"1\n", 0}, {" 1\n", 0},
		{"Plantnum 1\n", 0}, {"plantnums 1\n", 0}, {"plantnu 1\n", 0}, {"plant num 1\n", 0}, {"plantden 1\n", 0}, {"plantnum1\n", 0}, {"plantnum 1plantden -1 2\n", 0},
		{a + b + c + "controllerden 1", 3}, {a + b + c + "controllerden\n", 3}, {a + b + "controllernum", 2}, {a + "plantden -1 2", 1}, {a + "\n" + b, 1}, {a + b + c + d[:5], 3},
		{text + a, 4}, {text + d, 4}, {text + "\n", 4}, {text + " ", 4}, {text + "x", 4}, {text + "controllerden 1", 4}, {text + text, 4}, {text + "\nx\n", 4},
		{"plantnum 0 0 0\nplantden x\n", 1}, {"plantnum 999999999\nplantden 0\ncontrollernum 1\ncontrollerden -0\n", 3},
	} {
		notParsed(t, x.s, x.at, api.ErrSyntax)
	}
	for at := range 4 {
		lines := strings.SplitAfter(text, "\n")
		lines[at] = "x" + lines[at]
		notParsed(t, strings.Join(lines, ""), at, api.ErrSyntax)
		notParsed(t, strings.Join(lines, "")+"x", at, api.ErrSyntax)
	}
}

// P3.5: integers have one way to be written, at each place.
func TestParseIntegers(t *testing.T) {
	bad := []string{"-", "-0", "+1", "00", "01", "-01", "-00", "--1", "1-", "000000000", "1.0", "1e1", "0x1", "1_0", "a", "1a", "a1", "٣", "1\x00", "\t1", "/", ":", "\xff", "1000000000", "-1000000000", "0000000001", "9999999999", "99999999999999999999999"}
	for place := range 4 {
		lines := strings.Split(text, "\n")
		first, _, _ := strings.Cut(lines[place], " ")
		for _, form := range []string{"%s", "%s 1", "1 %s", "1 2 %s 3", "1 1 1 1 1 1 %s"} {
			for _, word := range bad {
				lines[place] = first + " " + fmt.Sprintf(form, word)
				notParsed(t, strings.Join(lines, "\n"), place, api.ErrSyntax)
			}
			for _, word := range []string{"999999999", "-999999999"} {
				lines[place] = first + " " + fmt.Sprintf(form, word)
				want := api.ErrRange
				if strings.Count(form, "1") > 4 {
					want = api.ErrMany
				}
				notParsed(t, strings.Join(lines, "\n"), 4, want)
			}
		}
	}
}

// P3.5: the errors of the loop come with the number of lines.
func TestParseOfNoLoop(t *testing.T) {
	lines := strings.SplitAfter(text, "\n")
	for n := range 4 {
		notParsed(t, strings.Join(lines[:n], ""), n, api.ErrShape)
	}
	notParsed(t, "plantnum 0\n", 1, api.ErrShape)
	notParsed(t, "plantnum 101\nplantden 0\ncontrollernum 0 0\n", 3, api.ErrShape)
	replaced := func(at int, numbers string) string {
		l := strings.SplitAfter(text, "\n")
		word, _, _ := strings.Cut(l[at], " ")
		l[at] = word + " " + numbers + "\n"
		return strings.Join(l, "")
	}
	for at := range 4 {
		for numbers, e := range map[string]api.Errno{"0": api.ErrZero, "1 0": api.ErrZero, "101": api.ErrRange, "-101 0": api.ErrRange, "1 2 3 4 5 6": api.ErrMany, strings.Repeat("0 ", 1000) + "0": api.ErrMany} {
			notParsed(t, replaced(at, numbers), 4, e)
		}
	}
	notParsed(t, replaced(1, "1 2 3 4"), 4, api.ErrLimit)
	notParsed(t, replaced(3, "1 2 3 4"), 4, api.ErrLimit)
	notParsed(t, replaced(0, "1 2"), 4, api.ErrShape)
	notParsed(t, replaced(2, "1 2"), 4, api.ErrShape)
	notParsed(t, replaced(3, "51"), 4, api.ErrLarge)
}

// P3.5
func TestParseOfLongText(t *testing.T) {
	line := func(bytes int) string {
		s := text + strings.Repeat("x", bytes-len(text))
		is(t, "bytes", len(s), bytes)
		return s
	}
	notParsed(t, line(4096), 4, api.ErrSyntax)
	notParsed(t, line(4097), 0, api.ErrLong)
	notParsed(t, strings.Repeat("\n", 4096), 0, api.ErrSyntax)
	notParsed(t, strings.Repeat("\n", 4097), 0, api.ErrLong)
	notParsed(t, strings.Repeat("x", 5000), 0, api.ErrLong)
	most := "plantnum" + strings.Repeat(" 1", (4096-len("plantnum\n"))/2) + "\n"
	notParsed(t, most, 1, api.ErrShape)
	notParsed(t, "plantnum 1"+most[8:], 0, api.ErrLong)
}
