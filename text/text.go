// Package text has what the texts of all layers have in common: lines that end
// with a line feed, of words that are separated by one space.
package text

import (
	"strconv"
	"strings"

	"bipole/api"
	"bipole/check"
	"bipole/list"
)

// maxDigits is the number of the digits that an integer may have.
const maxDigits = 9

// Read takes a text apart, line by line, and returns the number of its lines.
// Each line is given with its index to a function that takes its words, and
// reports whether it knows them. Together with an error, Read returns the index
// of the first line that is wrong: ErrSyntax for one that has no line feed at its
// end, whose words are not known, or of which a word was wrong, missing or left;
// otherwise the error for which it was refused.
func Read(s string, most int, read func(i int, line *Line) bool) (int, api.Errno) {
	if len(s) > most {
		return 0, api.ErrLong
	}
	lines := 0
	for rest := s; rest != ""; lines++ {
		words, after, ended := strings.Cut(rest, "\n")
		line := Words(words)
		if !ended || !read(lines, line) || !line.IsDone() {
			return lines, api.ErrSyntax
		}
		if line.refused != api.OK {
			return lines, line.refused
		}
		rest = after
	}
	return lines, api.OK
}

// Written returns the line of words.
func Written(words ...string) string {
	return strings.Join(words, " ") + "\n"
}

// Numbered returns the line of a word and the integers behind it.
func Numbered(word string, numbers []int) string {
	return Written(append([]string{word}, list.Mapped(numbers, strconv.Itoa)...)...)
}

// Line is the words of a line that are still to be taken.
type Line struct {
	rest    string
	over    bool // the last word was taken
	wrong   bool // a word was not there, or was not what was asked for
	refused api.Errno
}

// Words returns a line by itself, of which no word is taken.
func Words(s string) *Line {
	return &Line{rest: s}
}

// IsDone reports whether all words of a line were taken, and none of them was wrong
// or missing.
func (l *Line) IsDone() bool {
	return l.over && !l.wrong
}

// More reports whether a word is left to be taken.
func (l *Line) More() bool {
	return !l.over
}

// Word takes the next word, which has at least one byte.
func (l *Line) Word() string {
	if l.over {
		l.wrong = true
		return ""
	}
	word, rest, more := strings.Cut(l.rest, " ")
	l.rest, l.over = rest, !more
	if word == "" {
		l.wrong = true
	}
	return word
}

// Either takes the next word, which is one of two, and reports whether it is the
// first one of them.
func (l *Line) Either(yes, no string) bool {
	word := l.Word()
	if word != yes && word != no {
		l.wrong = true
	}
	return word == yes
}

// Refuse refuses a line for an error, which counts only if all of its words are
// right, and if it was not refused before.
func (l *Line) Refuse(e api.Errno) {
	l.refused = check.First(l.refused, e)
}

// Number takes the next word, which is digits alone.
func (l *Line) Number() int {
	n, ok := number(l.Word())
	if !ok {
		l.wrong = true
	}
	return n
}

// Integer takes the next word, which is digits, with - in front of them for an
// integer below 0.
func (l *Line) Integer() int {
	digits, below := strings.CutPrefix(l.Word(), "-")
	n, ok := number(digits)
	if !ok || below && n == 0 {
		l.wrong = true
	}
	if below {
		return -n
	}
	return n
}

// number returns the number that digits are in the one way to write it.
func number(digits string) (int, bool) {
	if len(digits) < 1 || len(digits) > maxDigits || digits[0] == '0' && digits != "0" {
		return 0, false
	}
	n := 0
	for _, r := range digits {
		if r < '0' || r > '9' {
			return 0, false
		}
		n = 10*n + int(r-'0')
	}
	return n, true
}
