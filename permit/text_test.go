package permit_test

import (
	"fmt"
	"strconv"
	"strings"
	"testing"

	"bipole/api"
	"bipole/permit"
)

// text is the text of the yard Y in the state 4, with two permits.
const text = "section g source\nsection m plain\nsection p plain\nbreaker b g m open\nisolator i m p open\nearth e p closed\npermit a p\npermit b p\n"

// P9.4
func TestTexts(t *testing.T) {
	for s, y := range map[string]permit.Yard{
		text: held(shown(4), 2, 2),
		"section g source\nsection m plain\nsection p plain\nbreaker b g m closed\nisolator i m p closed\nearth e p open\n": shown(3),
		"section a plain\n":                               {Sections: sections("a")},
		"section a source\n":                              {Sections: sections("a*")},
		"section a plain\nearth a a open\n":               in(0, lone(1)),
		"section a plain\nearth a a closed\npermit a a\n": held(lone(1), 0),
		"section section plain\nsection plain source\nsection source plain\nsection earth plain\nsection open plain\nbreaker breaker section plain open\nisolator closed source open closed\nearth permit earth closed\npermit section earth\npermit permit earth\n": {
			Sections: sections("section plain* source earth open"),
			Switches: []permit.Switch{breaker("breaker", 0, 1), {Name: "closed", Kind: "isolator", A: 2, B: 4, Closed: true}, {Name: "permit", Kind: "earth", A: 3, B: -1, Closed: true}},
			Permits:  []permit.Permit{{Name: "section", Section: 3}, {Name: "permit", Section: 3}},
		},
		"section b_1 plain\nsection A source\nisolator z A b_1 open\nbreaker y b_1 A closed\n": {
			Sections: sections("b_1 A*"),
			Switches: []permit.Switch{isolator("z", 1, 0), {Name: "y", Kind: "breaker", A: 0, B: 1, Closed: true}},
		},
	} {
		printed, e := permit.Print(y)
		is(t, "printed", printed, s)
		is(t, "printed", e, api.OK)
		parsed, at, e := permit.Parse(s)
		isYard(t, s, parsed, y)
		is(t, s+": index", at, 0)
		is(t, s+": error", e, api.OK)
	}
	eachBadYard(func(what string, y permit.Yard, want api.Errno) {
		s, e := permit.Print(y)
		is(t, what, s, "")
		is(t, what, e, want)
	})
}

// P9.4: the longest text of a yard is parsed, too.
func TestLongestText(t *testing.T) {
	y := held(lone(8), 0, 1, 2, 3, 4, 5, 6, 7)
	for i, letter := range letters[:8] {
		name := strings.Repeat(letter, 24)
		y.Sections[i].Name, y.Switches[i].Name, y.Permits[i].Name = name, name, name
	}
	for i := range 4 {
		y.Switches[i] = permit.Switch{Name: y.Switches[i].Name, Kind: "isolator", A: i, B: i + 4, Closed: true}
	}
	s, e := permit.Print(y)
	is(t, "the longest text", e, api.OK)
	is(t, "the longest text", len(s) <= 4096, true)
	is(t, "the longest text", strings.Count(s, "\n"), 24)
	parsed, _, e := permit.Parse(s)
	isYard(t, "the longest text", parsed, y)
	is(t, "the longest text", e, api.OK)
}

// notParsed fails a test if a text does not have an error at an index.
func notParsed(t *testing.T, s string, index int, want api.Errno) {
	t.Helper()
	y, at, e := permit.Parse(s)
	what := strconv.Quote(s[:min(len(s), 300)])
	isYard(t, what, y, permit.Yard{})
	is(t, what+": index", at, index)
	is(t, what+": error", e, want)
}

// badLines are lines of no form.
var badLines = []string{
	"\n", " ", " \n", "x", "x 1\n", "yard\n", "\r\n", "\x00\n",
	"section\n", "section a\n", "section a open\n", "section a Plain\n", "section a plain plain\n", "section a  plain\n", "section  plain\n", "section a plain ", "sections a plain\n", "section a plain\r\n", "section a \n",
	"breaker x\n", "breaker x g\n", "breaker x g m\n", "breaker x g open\n", "breaker x g m shut\n", "breaker x g m open closed\n", "breaker x g m p open\n", "breaker x g  m open\n", "breaker  g m open\n", "breaker x g m open", "breaker x g m Open\n", "breaker x none none plain\n",
	"isolator x\n", "isolator x g m\n", "isolator x g closed\n", "isolator x m p closed \n", "isolator x m p source\n", "isolator x none m closed",
	"earth x\n", "earth x p\n", "earth x p open open\n", "earth x p m open\n", "earth x p -1 open\n", "earth x p opened\n", "earth x  open\n", "earth x none closed", "earth x none shut\n", "Earth x p open\n",
	"permit\n", "permit x\n", "permit x p p\n", "permit x p open\n", "permit x  p\n", "permit x p", "permit x none", "permit x none none\n", "permits x p\n",
}

// P9.4: each line has its form, and no other one.
func TestParseOfNoText(t *testing.T) {
	lines := strings.SplitAfter(text, "\n")
	lines = lines[:len(lines)-1]
	for i, line := range lines {
		before, after := strings.Join(lines[:i], ""), strings.Join(lines[i+1:], "")
		word, rest, _ := strings.Cut(strings.TrimSuffix(line, "\n"), " ")
		own := append([]string{
			line[:len(line)-1], word, word + "\n", word + " \n", " " + line, word + "  " + rest + "\n", line[:len(line)-1] + " \n", line[:len(line)-1] + "\r", line[:len(line)-1] + " p\n", word + "\t" + rest + "\n",
			strings.ToUpper(word) + " " + rest + "\n", word[1:] + " " + rest + "\n", word + "s " + rest + "\n", rest + "\n", word + rest + "\n", word + "  \n",
		}, badLines...)
		for _, s := range own {
			notParsed(t, before+s, i, api.ErrSyntax)
			if strings.HasSuffix(s, "\n") {
				notParsed(t, before+s+after, i, api.ErrSyntax)
				notParsed(t, before+s+"permit x none\n", i, api.ErrSyntax)
			}
		}
	}
	for _, s := range badLines {
		notParsed(t, text+s, 8, api.ErrSyntax)
	}
	notParsed(t, text+"permit c p", 8, api.ErrSyntax)
	notParsed(t, text+"permit c p\n\n", 9, api.ErrSyntax)
	notParsed(t, text+text, 8, api.ErrSyntax)
}

// P9.4: sections stand before switches and permits, and switches before permits.
func TestParseOfWrongOrder(t *testing.T) {
	const a, open, given = "section a plain\n", "earth e a open\n", "permit k a\n"
	notParsed(t, a+open+"section b plain\n", 2, api.ErrSyntax)
	notParsed(t, a+given+"section b plain\n", 2, api.ErrSyntax)
	notParsed(t, a+open+given+"section b plain\n", 3, api.ErrSyntax)
	notParsed(t, a+given+open, 2, api.ErrSyntax)
	notParsed(t, a+given+"breaker b a a open\n", 2, api.ErrSyntax)
	notParsed(t, a+given+"isolator b none a open\n", 2, api.ErrSyntax)
	notParsed(t, a+open+given+open, 3, api.ErrSyntax)
	notParsed(t, open+a, 0, api.ErrUnknown)
	notParsed(t, given+a, 0, api.ErrUnknown)
	y, _, e := permit.Parse(a + "earth e a closed\nearth d a open\n" + given)
	is(t, "in order", e, api.OK)
	is(t, "in order", len(y.Switches), 2)
}

// P9.4: a line names only sections that a line before it has.
func TestParseOfUnknownSections(t *testing.T) {
	const some = "section g source\nsection m plain\n"
	for _, line := range []string{
		"breaker x g none open\n", "breaker x none g closed\n", "isolator x none none open\n", "isolator x m G open\n", "earth x none open\n", "earth x \xff closed\n", "permit x none\n", "permit x gm\n", "earth 1 x open\n", "permit 1 2\n", "breaker g g x open\n",
	} {
		notParsed(t, some+line, 2, api.ErrUnknown)
		notParsed(t, some+line+"none\n", 2, api.ErrUnknown)
		notParsed(t, some+line+"permit", 2, api.ErrUnknown)
		notParsed(t, some+line+line, 2, api.ErrUnknown)
		notParsed(t, line, 0, api.ErrUnknown)
		notParsed(t, "section 1 plain\nsection 1 plain\n"+line, 2, api.ErrUnknown) // before any error of the yard
		notParsed(t, some+"none\n"+line, 2, api.ErrSyntax)
		notParsed(t, some+strings.TrimSuffix(line, "\n"), 2, api.ErrSyntax)
		notParsed(t, some+strings.Replace(line, "\n", " \n", 1), 2, api.ErrSyntax)
		notParsed(t, some+strings.Replace(line, "\n", " x\n", 1), 2, api.ErrSyntax)
	}
	notParsed(t, some+"earth x m open\nearth y n open\nearth z m shut\n", 3, api.ErrUnknown)
	notParsed(t, some+"earth x m open\nearth y m open\nearth z m shut\n", 4, api.ErrSyntax)
	notParsed(t, some+"earth m g open\npermit k x\n", 3, api.ErrUnknown)
	notParsed(t, some+"earth x m open\npermit k x\n", 3, api.ErrUnknown) // the name of a switch
}

// P9.4: the errors of the yard come with the number of lines.
func TestParseOfNoYard(t *testing.T) {
	eight := ""
	for _, letter := range letters[:8] {
		eight += "section " + letter + " plain\n"
	}
	earths := strings.Repeat("earth a a open\n", 9)
	for _, x := range []struct {
		s  string
		at int
		e  api.Errno
	}{
		{"", 0, api.ErrEmpty}, {"section 1 plain\n", 1, api.ErrName}, {"section ä plain\n", 1, api.ErrName}, {"section \x00 plain\n", 1, api.ErrName}, {"section a plain\nsection a source\n", 2, api.ErrTwice}, {"section a plain\nsection a plain\nearth 1 a open\n", 3, api.ErrTwice},
		{eight + "section i plain\n", 9, api.ErrMany}, {eight + "section 1 plain\n", 9, api.ErrMany}, {eight + earths, 17, api.ErrMany}, {eight + earths[:30], 10, api.ErrTwice}, {eight + earths[:120], 16, api.ErrTwice},
		{"section a plain\nearth 1 a open\n", 2, api.ErrName}, {"section a plain\nbreaker b a a open\n", 2, api.ErrConflict}, {"section a plain\nsection b plain\nisolator i b b closed\n", 3, api.ErrConflict},
		{"section a plain\npermit 1 a\n", 2, api.ErrName}, {"section a plain\npermit k a\npermit k a\n", 3, api.ErrTwice}, {"section a plain\npermit k a\n", 2, api.ErrState}, {"section a plain\nearth e a closed\n" + strings.Repeat("permit k a\n", 9), 11, api.ErrMany},
		{"section a source\nearth e a closed\n", 2, api.ErrState}, {"section a source\nsection b plain\nbreaker b a b open\nearth e b closed\npermit k b\n", 5, api.ErrState},
	} {
		notParsed(t, x.s, x.at, x.e)
	}
	y, at, e := permit.Parse(eight + "earth a a open\n")
	is(t, "eight", fmt.Sprint(len(y.Sections), at, e), "8 0 0")
}

// P9.4
func TestParseOfLongText(t *testing.T) {
	notParsed(t, text+strings.Repeat("x", 4096-len(text)), 8, api.ErrSyntax)
	notParsed(t, text+strings.Repeat("x", 4097-len(text)), 0, api.ErrLong)
	notParsed(t, strings.Repeat("\n", 4096), 0, api.ErrSyntax)
	notParsed(t, strings.Repeat("\n", 4097), 0, api.ErrLong)
	long := "section " + strings.Repeat("a", 4081) + " plain\n"
	notParsed(t, long, 1, api.ErrName)
	notParsed(t, long+"\n", 0, api.ErrLong)
	notParsed(t, "permit k none\n"+strings.Repeat("x", 4096), 0, api.ErrLong)
}
