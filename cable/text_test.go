package cable_test

import (
	"fmt"
	"slices"
	"strconv"
	"strings"
	"testing"

	"bipole/api"
	"bipole/cable"
)

const text = "cable 4 0\nsection 1000 4\njoint 2\nsection 3000 6\n"

// P6.1
func TestTexts(t *testing.T) {
	longestText := "cable -8 -8\n" + strings.Repeat("section 100000 64\njoint -8\n", 5) + "section 100000 64\n"
	for s, c := range map[string]cable.Cable{
		text:                        shown(),
		"cable 0 0\nsection 1 1\n":  single(1, 1, 0, 0),
		"cable -8 8\nsection 1 1\n": single(1, 1, -8, 8),
		longestText:                 longest(-8),
		"cable 1 2\nsection 3 4\njoint 5\nsection 6 7\njoint -8\nsection 9 10\n": {Sections: sections([2]int{3, 4}, [2]int{6, 7}, [2]int{9, 10}), Joints: []int{5, -8}, Ends: [2]int{1, 2}},
	} {
		printed, e := cable.Print(c)
		is(t, "printed", printed, s)
		is(t, "printed", e, api.OK)
		parsed, at, e := cable.Parse(s)
		isCable(t, s, parsed, c)
		is(t, s+": index", at, 0)
		is(t, s+": error", e, api.OK)
	}
	eachBadCable(func(what string, c cable.Cable, want api.Errno) {
		s, e := cable.Print(c)
		is(t, what, s, "")
		is(t, what, e, want)
	})
}

// notParsed fails a test if a text does not have an error at an index.
func notParsed(t *testing.T, s string, index int, want api.Errno) {
	t.Helper()
	c, at, e := cable.Parse(s)
	what := strconv.Quote(s[:min(len(s), 120)])
	isCable(t, what, c, cable.Cable{})
	is(t, what+": index", at, index)
	is(t, what+": error", e, want)
}

// P6.1: each line has its form, and no other one.
func TestParseOfNoText(t *testing.T) {
	bad := []string{"\n", " ", " \n", "x", "x 1\n", "x 1 2\n", "\r\n", "\x00\n"}
	forms := []string{"cable 4 0\n", "section 1000 4\n", "joint 2\n", "section 3000 6\n"}
	for i, form := range forms {
		word, integers, _ := strings.Cut(strings.TrimSuffix(form, "\n"), " ")
		own := append([]string{
			form[:len(form)-1], word, word + "\n", word + " \n", word + " 1 2 3\n", " " + form, word + "  " + integers + "\n", word + " " + integers + " \n", word + " " + integers + "\r\n", word + "\t" + integers + "\n",
			strings.ToUpper(form), word[1:] + " " + integers + "\n", word + "s " + integers + "\n", integers + " " + word + "\n", integers + "\n", word + integers + "\n", word + " " + strings.Replace(integers, " ", ",", 1) + "x\n", word + " a\n", word + " 1 a\n", word + " " + word + "\n",
		}, bad...)
		if word == "joint" {
			own = append(own, "joint 1 2\n")
		} else {
			own = append(own, word+" 1\n", word+" 1  2\n")
		}
		for _, other := range forms {
			if !strings.HasPrefix(other, word) {
				own = append(own, other)
			}
		}
		for _, s := range own {
			before := strings.Join(forms[:i], "")
			notParsed(t, before+s, i, api.ErrSyntax)
			if strings.HasSuffix(s, "\n") {
				notParsed(t, before+s+strings.Join(forms[i+1:], ""), i, api.ErrSyntax)
				notParsed(t, before+s+s, i, api.ErrSyntax)
			}
		}
	}
}

// P6.1: a text has at least a line, and does not end behind a joint.
func TestParseOfParts(t *testing.T) {
	lines := strings.SplitAfter(text, "\n")
	for n, e := range map[int]api.Errno{0: api.ErrSyntax, 1: api.ErrEmpty, 3: api.ErrSyntax} {
		notParsed(t, strings.Join(lines[:n], ""), n, e)
	}
	notParsed(t, text+"joint 0\n", 5, api.ErrSyntax)
	notParsed(t, text+"joint 9\n", 5, api.ErrSyntax)
	notParsed(t, text+"joint 0\nsection 1 1\njoint 0\n", 7, api.ErrSyntax)
	notParsed(t, text+"section 1 1\n", 4, api.ErrSyntax)
	notParsed(t, text+"cable 1 1\n", 4, api.ErrSyntax)
	notParsed(t, text+"\n", 4, api.ErrSyntax)
	notParsed(t, text+"joint 0", 4, api.ErrSyntax)
	notParsed(t, text+"joint 0\n\n", 5, api.ErrSyntax)
	notParsed(t, text+text, 4, api.ErrSyntax)
	c, at, e := cable.Parse(strings.Join(lines[:2], ""))
	isCable(t, "two lines", c, single(1000, 4, 4, 0))
	is(t, "two lines", at, 0)
	is(t, "two lines", e, api.OK)
}

// P6.1: integers have one way to be written, at each place.
func TestParseIntegers(t *testing.T) {
	for i, form := range []string{"cable %s 0\n", "cable 0 %s\n", "cable 0 0\nsection %s 6\n", "cable 0 0\nsection 6 %s\n", "cable 0 0\nsection 6 6\njoint %s\n"} {
		index := i / 2
		last := []string{"section 1 1\n", "", "section 1 1\n"}[index]
		for _, word := range []string{"-", "-0", "+1", "00", "01", "-01", "-00", "--1", "1-", "000000000", "1.0", "1e1", "0x1", "1_0", "a", "1a", "a1", "٣", "1\x00", "\t1", "/", ":", "\xff", "1000000000", "-1000000000", "0000000001", "9999999999", "99999999999999999999999"} {
			notParsed(t, fmt.Sprintf(form, word), index, api.ErrSyntax)
			notParsed(t, fmt.Sprintf(form, word)+last, index, api.ErrSyntax)
		}
		for _, word := range []string{"999999999", "-999999999", "100001", "-9"} {
			s := fmt.Sprintf(form, word) + last
			notParsed(t, s, strings.Count(s, "\n"), api.ErrRange)
		}
		for _, n := range []int{1, 2, 7, 8} {
			c, _, e := cable.Parse(fmt.Sprintf(form, strconv.Itoa(n)) + last)
			is(t, form, e, api.OK)
			joint := append(slices.Clone(c.Joints), 0)[0]
			is(t, form, []int{c.Ends[0], c.Ends[1], c.Sections[0].Length, c.Sections[0].Delay, joint}[i], n)
		}
	}
	for n := -8; n <= 8; n++ {
		c, _, e := cable.Parse(fmt.Sprint("cable ", n, " ", -n, "\nsection 1 1\njoint ", n, "\nsection 1 1\n"))
		isCable(t, fmt.Sprint(n), c, cable.Cable{Sections: sections([2]int{1, 1}, [2]int{1, 1}), Joints: []int{n}, Ends: [2]int{n, -n}})
		is(t, fmt.Sprint(n), e, api.OK)
	}
}

// P6.1: the errors of the cable come with the number of lines.
func TestParseOfNoCable(t *testing.T) {
	sevenSections := "cable 0 0\n" + strings.Repeat("section 1 1\njoint 0\n", 6) + "section 1 1\n"
	for _, x := range []struct {
		s  string
		at int
		e  api.Errno
	}{
		{"cable 9 9\n", 1, api.ErrEmpty}, {"cable 9 9\nsection 0 0\n", 2, api.ErrRange}, {"cable 0 0\nsection 1 65\njoint 0\nsection 1 1\n", 4, api.ErrRange}, {"cable 0 0\nsection 1 1\njoint 9\nsection 1 1\n", 4, api.ErrRange}, {"cable 0 -9\nsection 1 1\n", 2, api.ErrRange},
		{sevenSections, 14, api.ErrMany}, {strings.Replace(sevenSections, "joint 0", "joint 9", 1), 14, api.ErrMany}, {sevenSections + "joint 0\n", 15, api.ErrSyntax}, {sevenSections + "joint 0\nsection 0\n", 15, api.ErrSyntax},
	} {
		notParsed(t, x.s, x.at, x.e)
	}
}

// P6.1
func TestParseOfLongText(t *testing.T) {
	notParsed(t, text+strings.Repeat("x", 4096-len(text)), 4, api.ErrSyntax)
	notParsed(t, text+strings.Repeat("x", 4097-len(text)), 0, api.ErrLong)
	notParsed(t, strings.Repeat("\n", 4096), 0, api.ErrSyntax)
	notParsed(t, strings.Repeat("\n", 4097), 0, api.ErrLong)
	long := "cable 0 0\n" + strings.Repeat("section 1 1\njoint 0\n", 203) + "section 1"
	notParsed(t, long+strings.Repeat("0", 4093-len(long))+" 1\n", 407, api.ErrSyntax)
	notParsed(t, long+" 1\n", 408, api.ErrMany)
	notParsed(t, long+strings.Repeat("0", 4094-len(long))+" 1\n", 0, api.ErrLong)
}
