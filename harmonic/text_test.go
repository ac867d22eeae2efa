package harmonic_test

import (
	"fmt"
	"strconv"
	"strings"
	"testing"

	"bipole/api"
	"bipole/harmonic"
)

const text = "branch 1 9\nbranch 1 36\n"

// P4.4
func TestPrint(t *testing.T) {
	for want, f := range map[string]harmonic.Filter{
		text:              pair(),
		"branch 0 2000\n": filter([2]int{0, 2000}),
		"branch 50 0\nbranch 0 1\nbranch 50 2000\n": filter([2]int{50, 0}, [2]int{0, 1}, [2]int{50, 2000}),
	} {
		s, e := harmonic.Print(f)
		is(t, fmt.Sprint("the text of ", f), s, want)
		is(t, fmt.Sprint("the text of ", f), e, api.OK)
		parsed, at, e := harmonic.Parse(want)
		isFilter(t, want, parsed, f)
		is(t, want+": index", at, 0)
		is(t, want+": error", e, api.OK)
	}
}

// notParsed fails a test if a text does not have an error at an index.
func notParsed(t *testing.T, s string, index int, want api.Errno) {
	t.Helper()
	f, at, e := harmonic.Parse(s)
	what := strconv.Quote(s[:min(len(s), 120)])
	isFilter(t, what, f, harmonic.Filter{})
	is(t, what+": index", at, index)
	is(t, what+": error", e, want)
}

// P4.4
func TestParseOfNoText(t *testing.T) {
	for _, s := range []string{
		"\n", " ", " \n", "x", "branch", "branch\n", "branch \n", "branch 1\n", "branch 1 \n", "branch 1 9", "branch 1 9 \n", "branch 1 9 1\n", "branch  1 9\n", "branch 1  9\n", " branch 1 9\n", "branch\t1\t9\n", "branch 1 9\r\n", "\r\n",
		"Branch 1 9\n", "branches 1 9\n", "branc 1 9\n", "1 9\n", "1 9 branch\n", "branch1 9\n", "branch 19\n", "branch 1 branch\n", "branch 1,9\n", "branch branch 1 9\n", "filter 1 9\n", "\x00branch 1 9\n", "branch 1 9\x00\n",
	} {
		notParsed(t, s, 0, api.ErrSyntax)
		notParsed(t, text+s, 2, api.ErrSyntax)
		if strings.HasSuffix(s, "\n") {
			notParsed(t, s+text, 0, api.ErrSyntax)
			notParsed(t, text+s+s+text, 2, api.ErrSyntax)
			notParsed(t, "branch 999999999 0\nbranch 0 0\n"+s, 2, api.ErrSyntax)
		}
	}
}

// P4.4: integers are digits alone, and have one way to be written.
func TestParseIntegers(t *testing.T) {
	for _, form := range []string{"branch %s 9\n", "branch 1 %s\n"} {
		for _, word := range []string{"-", "-0", "-1", "+1", "00", "01", "09", "000000000", "1.0", "1e1", "0x1", "1_0", "a", "1a", "a1", "٣", "1\x00", "\t1", "/", ":", "\xff", "1000000000", "0000000001", "99999999999999999999999"} {
			notParsed(t, fmt.Sprintf(form, word), 0, api.ErrSyntax)
			notParsed(t, "branch 1 9\n"+fmt.Sprintf(form, word)+"x", 1, api.ErrSyntax)
		}
		notParsed(t, fmt.Sprintf(form, "999999999"), 1, api.ErrRange)
		notParsed(t, fmt.Sprintf(form, "2001"), 1, api.ErrRange)
	}
}

// P4.4: the errors of the filter come with the number of lines.
func TestParseOfNoFilter(t *testing.T) {
	notParsed(t, "", 0, api.ErrEmpty)
	for n := range 3 {
		before := strings.Repeat("branch 1 9\n", n)
		notParsed(t, before+"branch 0 0\n", n+1, api.ErrZero)
		notParsed(t, before+"branch 51 9\n", n+1, api.ErrRange)
		notParsed(t, before+"branch 1 2001\n", n+1, api.ErrRange)
	}
	for n := 4; n <= 372; n++ {
		notParsed(t, strings.Repeat("branch 1 9\n", n), n, api.ErrMany)
		notParsed(t, strings.Repeat("branch 0 0\n", n), n, api.ErrMany)
	}
	notParsed(t, "branch 51 9\nbranch 0 0\n", 2, api.ErrRange)
	notParsed(t, "branch 0 0\nbranch 51 9\n", 2, api.ErrZero)
}

// P4.4
func TestParseOfLongText(t *testing.T) {
	notParsed(t, text+strings.Repeat("x", 4096-len(text)), 2, api.ErrSyntax)
	notParsed(t, text+strings.Repeat("x", 4097-len(text)), 0, api.ErrLong)
	notParsed(t, strings.Repeat("\n", 4096), 0, api.ErrSyntax)
	notParsed(t, strings.Repeat("\n", 4097), 0, api.ErrLong)
	notParsed(t, strings.Repeat("branch 1 9\n", 372)+"abc\n", 372, api.ErrSyntax)
	notParsed(t, strings.Repeat("branch 1 9\n", 372)+"abcd\n", 0, api.ErrLong)
	notParsed(t, strings.Repeat("branch 1 9\n", 373), 0, api.ErrLong)
}

// P4.4: filters of one text share no memory.
func TestMemoryOfTexts(t *testing.T) {
	first, _, _ := harmonic.Parse(text)
	clear(first.Branches[:cap(first.Branches)])
	again, _, _ := harmonic.Parse(text)
	isFilter(t, "the filter of the same text", again, pair())
}
