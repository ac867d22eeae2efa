package start_test

import (
	"fmt"
	"slices"
	"strconv"
	"strings"
	"testing"

	"bipole/api"
	"bipole/start"
)

const text = "plant 100\npart diesel 50 -100 10\npart pump 80 30 5\nneed diesel\npart transformer 150 20 8\nneed diesel\npart valve 40 60 3\nneed pump\nneed transformer\n"

// P8.5
func TestTexts(t *testing.T) {
	for s, x := range map[string]start.Plant{
		text:                                 p(),
		"plant 0\npart a 0 0 1\n":            equal(0, 1, 0, 1),
		"plant 10\npart a 0 -7 100\n":        equal(10, 1, -7, 100),
		"plant 10000\npart a 0 10000 1000\n": equal(10000, 1, 10000, 1000),
		"plant 9\npart b 10000 -10000 1\nneed c_1\nneed a\npart a 0 0 9\npart c_1 1 2 3\nneed a\n": plant(9, part("b", 10000, -10000, 1, "c_1", "a"), part("a", 0, 0, 9), part("c_1", 1, 2, 3, "a")),
		"plant 1\npart need 0 0 1\nneed plant\nneed part\npart plant 0 0 1\npart part 0 0 1\n":     plant(1, part("need", 0, 0, 1, "plant", "part"), part("plant", 0, 0, 1), part("part", 0, 0, 1)),
	} {
		printed, e := start.Print(x)
		is(t, "printed", printed, s)
		is(t, "printed", e, api.OK)
		parsed, at, e := start.Parse(s)
		isPlant(t, s, parsed, x)
		is(t, s+": index", at, 0)
		is(t, s+": error", e, api.OK)
	}
	eachBadPlant(func(what string, x start.Plant, want api.Errno) {
		s, e := start.Print(x)
		is(t, what, s, "")
		is(t, what, e, want)
	})
}

// P8.5: the longest text of a plant is parsed, too.
func TestLongestText(t *testing.T) {
	x := plant(10000)
	for _, letter := range letters[:8] {
		y := part(strings.Repeat(letter, 24), 10000, -10000, 1000)
		for _, other := range x.Parts {
			y.Needs = append(y.Needs, other.Name)
		}
		x.Parts = append(x.Parts, y)
	}
	slices.Reverse(x.Parts)
	s, e := start.Print(x)
	is(t, "the longest text", e, api.OK)
	is(t, "the longest text", len(s) <= 4096, true)
	is(t, "the longest text", strings.Count(s, "\n"), 1+8+28)
	parsed, _, e := start.Parse(s)
	isPlant(t, "the longest text", parsed, x)
	is(t, "the longest text", e, api.OK)
}

// notParsed fails a test if a text does not have an error at an index.
func notParsed(t *testing.T, s string, index int, want api.Errno) {
	t.Helper()
	x, at, e := start.Parse(s)
	what := strconv.Quote(s[:min(len(s), 200)])
	isPlant(t, what, x, start.Plant{})
	is(t, what+": index", at, index)
	is(t, what+": error", e, want)
}

// P8.5: each line has its form, and no other one.
func TestParseOfNoText(t *testing.T) {
	notParsed(t, "", 0, api.ErrSyntax)
	bad := []string{"\n", " ", " \n", "x", "x 1\n", "x a 1 2 3\n", "1\n", "\r\n", "\x00\n"}
	lines := strings.SplitAfter(text, "\n")
	for i, line := range lines[:len(lines)-1] {
		word, rest, _ := strings.Cut(strings.TrimSuffix(line, "\n"), " ")
		own := append([]string{
			line[:len(line)-1], word, word + "\n", word + " \n", " " + line, word + "  " + rest + "\n", line[:len(line)-1] + " \n", line[:len(line)-1] + "\r", line[:len(line)-1] + " 1\n", line[:len(line)-1] + " a\n", word + "\t" + rest + "\n",
			strings.ToUpper(word) + " " + rest + "\n", word[1:] + " " + rest + "\n", word + "s " + rest + "\n", rest + "\n", word + rest + "\n", word + "  \n", word + " " + line,
		}, bad...)
		if i > 0 {
			own = append(own, "plant 1\n", "part a\n", "part a 1 2\n", "part a 1 2 3 4\n", "part a 1  3\n", "part  1 2 3\n", "part a 1 2 b\n", "part a 1 b 3\n", "part a b 2 3\n", "part 1 2 3\n")
		}
		if i < 2 {
			own = append(own, "need a\n", "need diesel\n")
		}
		for _, s := range own {
			before := strings.Join(lines[:i], "")
			notParsed(t, before+s, i, api.ErrSyntax)
			if strings.HasSuffix(s, "\n") {
				notParsed(t, before+s+strings.Join(lines[i+1:], ""), i, api.ErrSyntax)
				notParsed(t, before+s+s, i, api.ErrSyntax)
			}
		}
	}
	notParsed(t, text+"plant 100\n", 9, api.ErrSyntax)
	notParsed(t, text+text, 9, api.ErrSyntax)
	notParsed(t, text+"\n", 9, api.ErrSyntax)
	notParsed(t, text+"need diesel", 9, api.ErrSyntax)
	notParsed(t, text+"need diesel\n\n", 10, api.ErrSyntax)
	notParsed(t, text+"need diesel pump\n", 9, api.ErrSyntax)
	notParsed(t, "part a 1 2 3\nplant 1\n", 0, api.ErrSyntax)
	notParsed(t, "plant 1\nplant 1\npart a 1 2 3\n", 1, api.ErrSyntax)
}

// P8.5: integers have one way to be written, at each place.
func TestParseIntegers(t *testing.T) {
	for i, form := range []string{"plant %s\npart a 5 6 7\n", "plant 5\npart a %s 6 7\n", "plant 5\npart a 6 %s 7\n", "plant 5\npart a 6 7 %s\n"} {
		index := min(i, 1)
		for _, word := range []string{"", "-", "-0", "+1", "00", "01", "-01", "--1", "1-", "-00", "000000000", "1.0", "1e1", "0x1", "1_0", "a", "1a", "a1", "٣", "1\x00", "\t1", "/", ":", "\xff", "1000000000", "-1000000000", "0000000001", "9999999999", "99999999999999999999999"} {
			notParsed(t, fmt.Sprintf(form, word), index, api.ErrSyntax)
		}
		for _, word := range []string{"999999999", "-999999999", "10001", "-10001"} {
			notParsed(t, fmt.Sprintf(form, word), 2, api.ErrRange)
		}
		for _, n := range []int{1, 2, 9, 10, 97, 1000, -1, -10, -9999} {
			x, _, e := start.Parse(fmt.Sprintf(form, strconv.Itoa(n)))
			if n < 0 && i != 2 {
				is(t, form, e, api.ErrRange)
				continue
			}
			is(t, form, e, api.OK)
			y := x.Parts[0]
			is(t, form, []int{x.Capacity, y.Inrush, y.Load, y.Minutes}[i], n)
		}
	}
}

// P8.5: the errors of the plant come with the number of lines.
func TestParseOfNoPlant(t *testing.T) {
	eight := "plant 1\n" + strings.Repeat("part a 1 1 1\n", 8)
	many := "plant 1\npart a 1 1 1\n" + strings.Repeat("need a\n", 9)
	for _, x := range []struct {
		s  string
		at int
		e  api.Errno
	}{
		{"plant 5\n", 1, api.ErrEmpty}, {"plant 10001\n", 1, api.ErrRange}, {"plant -1\npart 1 1 1 1\n", 2, api.ErrRange}, {"plant 5\npart 1 1 1 1\n", 2, api.ErrName}, {"plant 5\npart ä 1 1 1\n", 2, api.ErrName}, {"plant 5\npart \x00 1 1 1\n", 2, api.ErrName}, {"plant 5\npart a 1 1 0\n", 2, api.ErrRange},
		{"plant 100\npart a 1 1 1\nneed b\n", 3, api.ErrUnknown}, {"plant 100\npart a 1 1 1\nneed 1\n", 3, api.ErrUnknown}, {"plant 100\npart a 1 1 1\nneed \xff\n", 3, api.ErrUnknown}, {"plant 100\npart a 1 1 1\nneed a\n", 3, api.ErrCycle}, {"plant 100\npart a 1 1 1\nneed b\nneed b\npart b 1 1 1\n", 5, api.ErrTwice}, {"plant 1\npart a 1 1 1\npart a 1 1 1\nneed b\n", 4, api.ErrTwice},
		{eight, 9, api.ErrTwice}, {eight + "part a 1 1 1\n", 10, api.ErrMany}, {many, 11, api.ErrMany}, {strings.TrimSuffix(many, "need a\n"), 10, api.ErrTwice}, {many + "need", 11, api.ErrSyntax}, {many + "part a 1 1 1", 11, api.ErrSyntax},
	} {
		notParsed(t, x.s, x.at, x.e)
	}
}

// P8.5
func TestParseOfLongText(t *testing.T) {
	notParsed(t, text+strings.Repeat("x", 4096-len(text)), 9, api.ErrSyntax)
	notParsed(t, text+strings.Repeat("x", 4097-len(text)), 0, api.ErrLong)
	notParsed(t, strings.Repeat("\n", 4096), 0, api.ErrSyntax)
	notParsed(t, strings.Repeat("\n", 4097), 0, api.ErrLong)
	long := "plant 1\npart " + strings.Repeat("a", 4076) + " 1 1 1\n"
	notParsed(t, long, 2, api.ErrName)
	notParsed(t, strings.Replace(long, "plant 1", "plant 12", 1), 0, api.ErrLong)
}
