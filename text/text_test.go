package text_test

import (
	"slices"
	"strconv"
	"strings"
	"testing"

	"bipole/api"
	"bipole/text"
)

// sums takes a word, a number and an integer from each line, and returns what
// Read does, with the words and the sums that were taken.
func sums(s string, most int) (words []string, numbers []int, at int, e api.Errno) {
	at, e = text.Read(s, most, func(i int, line *text.Line) bool {
		if i != len(words) {
			panic("the index is wrong")
		}
		word := line.Word()
		n := line.Number()
		m := line.Integer()
		words, numbers = append(words, word), append(numbers, n+m)
		return word != "unknown"
	})
	return words, numbers, at, e
}

// P1.5, P2.5: lines end with a line feed, words are separated by one space.
func TestRead(t *testing.T) {
	words, numbers, lines, e := sums("a 1 2\nb- 30 -4\n", 100)
	if !slices.Equal(words, []string{"a", "b-"}) || !slices.Equal(numbers, []int{3, 26}) || lines != 2 || e != api.OK {
		t.Errorf("two lines: got %v, %v, %d, %v", words, numbers, lines, e)
	}
	for _, x := range []struct {
		s  string
		at int
		e  api.Errno
	}{
		{"", 0, api.OK}, {strings.Repeat("a 1 2\n", 16), 16, api.OK}, {strings.Repeat("a 1 2\n", 17), 0, api.ErrLong}, {strings.Repeat("\n", 101), 0, api.ErrLong}, {strings.Repeat("\n", 100), 0, api.ErrSyntax},
		{"a 1 2", 0, api.ErrSyntax}, {"a 1 2\na 1 2", 1, api.ErrSyntax}, {"a 1 2\n\n", 1, api.ErrSyntax}, {"a 1 2\n ", 1, api.ErrSyntax}, {"a 1 2\nunknown 1 2\na 1 2\n", 1, api.ErrSyntax},
		{"a 1\n", 0, api.ErrSyntax}, {"a 1 \n", 0, api.ErrSyntax}, {"a 1 2 \n", 0, api.ErrSyntax}, {"a 1 2 3\n", 0, api.ErrSyntax}, {" a 1 2\n", 0, api.ErrSyntax}, {" 1 2\n", 0, api.ErrSyntax}, {"a  1 2\n", 0, api.ErrSyntax}, {"a\t1 2\n", 0, api.ErrSyntax},
	} {
		if _, _, at, e := sums(x.s, 100); at != x.at || e != x.e {
			t.Errorf("%q: got %d, %v, want %d, %v", x.s, at, e, x.at, x.e)
		}
	}
}

// P1.5, P2.5: integers have one way to be written; only some have a sign.
func TestIntegers(t *testing.T) {
	for word, want := range map[string]int{"0": 0, "1": 1, "10": 10, "907": 907, "999999999": 999999999} {
		if _, numbers, _, e := sums("a "+word+" 0\n", 100); e != api.OK || numbers[0] != want {
			t.Errorf("the number %q: got %v, %v", word, numbers, e)
		}
		if _, numbers, _, e := sums("a 0 "+word+"\n", 100); e != api.OK || numbers[0] != want {
			t.Errorf("the integer %q: got %v, %v", word, numbers, e)
		}
		_, numbers, _, e := sums("a 0 -"+word+"\n", 100)
		if zero := want == 0; zero != (e == api.ErrSyntax) || !zero && numbers[0] != -want {
			t.Errorf("the integer -%q: got %v, %v", word, numbers, e)
		}
		if _, _, _, e := sums("a -"+word+" 0\n", 100); e != api.ErrSyntax {
			t.Errorf("the number -%q: got %v", word, e)
		}
	}
	for _, word := range []string{"00", "01", "-01", "-", "--1", "+1", "1-", "1.0", "a", "1a", "٣", "/", ":", "1000000000", "-1000000000", "0000000000"} {
		_, _, _, e1 := sums("a "+word+" 0\n", 100)
		_, _, _, e2 := sums("a 0 "+word+"\n", 100)
		if e1 != api.ErrSyntax || e2 != api.ErrSyntax {
			t.Errorf("%q: got %v, %v", word, e1, e2)
		}
	}
}

// P2.5: a word has at least one byte, and there are as many as are taken.
func TestWords(t *testing.T) {
	for s, want := range map[string]api.Errno{"a b\n": api.OK, "a  \n": api.ErrSyntax, "a \n": api.ErrSyntax, "a\n": api.ErrSyntax, "a b \n": api.ErrSyntax, "a b c\n": api.ErrSyntax, "\xff \t\n": api.OK} {
		_, e := text.Read(s, 100, func(_ int, line *text.Line) bool {
			line.Word()
			line.Word()
			return true
		})
		if e != want {
			t.Errorf("%q: got %v, want %v", s, e, want)
		}
	}
}

// P10.3, P10.4: a line by itself is done when its last word is taken, and is as it was if
// it has a line feed.
func TestLine(t *testing.T) {
	for s, want := range map[string]bool{"a 1": true, "a\n 1": true, "\n 0": true, "\xff 999999999": true, "": false, "a": false, "a ": false, " 1": false, "a 1 ": false, "a  1": false, "a 1\n": false, "a 01": false, "a -1": false, "a 1 2": false} {
		line := text.Words(s)
		if line.IsDone() {
			t.Errorf("%q: done before a word is taken", s)
		}
		word := line.Word()
		if n := line.Number(); line.IsDone() != want || want && word+" "+strconv.Itoa(n) != s {
			t.Errorf("%q: got %q, %d, done: %v", s, word, n, line.IsDone())
		}
		if line.Word(); want && line.IsDone() {
			t.Errorf("%q: done after a word too many", s)
		}
	}
}

// P3.5: a line may have any number of words.
func TestMore(t *testing.T) {
	for s, want := range map[string]struct {
		n int
		e api.Errno
	}{
		"1\n": {1, api.OK}, "1 2\n": {3, api.OK}, "1 -2 30\n": {29, api.OK}, strings.Repeat("1 ", 1000) + "1\n": {1001, api.OK},
		"\n": {0, api.ErrSyntax}, "1 \n": {1, api.ErrSyntax}, "1  2\n": {3, api.ErrSyntax}, " 1\n": {1, api.ErrSyntax}, "1 2": {0, api.ErrSyntax},
	} {
		n := 0
		_, e := text.Read(s, 4096, func(_ int, line *text.Line) bool {
			for line.More() {
				n += line.Integer()
			}
			return true
		})
		if n != want.n || e != want.e {
			t.Errorf("%q: got %d, %v, want %d, %v", s, n, e, want.n, want.e)
		}
	}
}

// P9.4: a word is one of two, and no other one.
func TestEither(t *testing.T) {
	for s, want := range map[string]struct {
		yes bool
		e   api.Errno
	}{
		"open\n": {true, api.OK}, "closed\n": {false, api.OK}, "Open\n": {false, api.ErrSyntax}, "opened\n": {false, api.ErrSyntax}, "ope\n": {false, api.ErrSyntax}, "\n": {false, api.ErrSyntax}, "closed \n": {false, api.ErrSyntax}, "open closed\n": {true, api.ErrSyntax},
	} {
		yes := false
		_, e := text.Read(s, 100, func(_ int, line *text.Line) bool {
			yes = line.Either("open", "closed")
			return true
		})
		if yes != want.yes || e != want.e {
			t.Errorf("%q: got %v, %v, want %v, %v", s, yes, e, want.yes, want.e)
		}
	}
}

// P9.4: a line is refused for the first error, but only if it has its form.
func TestRefuse(t *testing.T) {
	for _, x := range []struct {
		s  string
		at int
		e  api.Errno
	}{
		{"good a\n", 1, api.OK}, {"zero a\n", 0, api.ErrZero}, {"good a\nzero none\n", 1, api.ErrZero}, {"good none\nzero a\n", 0, api.ErrNone}, {"good a\nzero a\nnone\n", 1, api.ErrZero},
		{"zero none\nzero a", 0, api.ErrZero}, {"zero a", 0, api.ErrSyntax}, {"zero\n", 0, api.ErrSyntax}, {"zero a b\n", 0, api.ErrSyntax}, {"zero  a\n", 0, api.ErrSyntax}, {"unknown none\n", 0, api.ErrSyntax}, {"none\nzero a\n", 0, api.ErrSyntax},
		{"good none\n" + strings.Repeat("\n", 100), 0, api.ErrLong},
	} {
		at, e := text.Read(x.s, 100, func(_ int, line *text.Line) bool {
			word := line.Word()
			if word == "zero" {
				line.Refuse(api.ErrZero)
			}
			if line.Word() == "none" {
				line.Refuse(api.ErrNone)
			}
			line.Refuse(api.OK)
			return word != "unknown"
		})
		if at != x.at || e != x.e {
			t.Errorf("%q: got %d, %v, want %d, %v", x.s, at, e, x.at, x.e)
		}
	}
}

// P1.5, P2.5, P3.5: lines are written as they are read.
func TestWritten(t *testing.T) {
	for got, want := range map[string]string{
		text.Written("a"):                      "a\n",
		text.Written("a", "b-", "1"):           "a b- 1\n",
		text.Numbered("a", nil):                "a\n",
		text.Numbered("a", []int{0, -10, 907}): "a 0 -10 907\n",
	} {
		if got != want {
			t.Errorf("got %q, want %q", got, want)
		}
	}
}
