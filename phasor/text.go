package phasor

import (
	"strconv"
	"strings"

	"bipole/api"
)

const (
	telegramWord = "telegram"
	maxDigits    = 9
)

// Print returns the text of telegrams.
func Print(l []Telegram) (string, api.Errno) {
	if e := checkTelegrams(l); e != api.OK {
		return "", e
	}
	var text strings.Builder
	for _, t := range l {
		text.WriteString(telegramWord)
		for _, n := range numbersOf(t) {
			text.WriteString(" " + strconv.Itoa(n))
		}
		text.WriteString("\n")
	}
	return text.String(), api.OK
}

// numbersOf returns the numbers of a telegram in the order of a line.
func numbersOf(t Telegram) []int {
	return append([]int{t.Source, t.Counter}, t.Values[:]...)
}

// telegramOf returns the telegram with the numbers of a line.
func telegramOf(numbers []int) Telegram {
	t := Telegram{Source: numbers[0], Counter: numbers[1]}
	copy(t.Values[:], numbers[2:])
	return t
}

// lineForm is what follows the first word of a line, and what it says.
type lineForm struct {
	numbers  int
	telegram func(numbers []int) Telegram
}

// lineForms returns the forms of lines by their first words.
func lineForms() map[string]lineForm {
	return map[string]lineForm{telegramWord: {numbers: 6, telegram: telegramOf}}
}

// Parse returns the telegrams of a text, and the index of the first line that is wrong.
func Parse(s string) ([]Telegram, int, api.Errno) {
	if len(s) > api.MaxLog {
		return nil, 0, api.ErrLong
	}
	forms := lineForms()
	var telegrams []Telegram
	for rest := s; rest != ""; {
		line, after, ended := strings.Cut(rest, "\n")
		t, ok := parseLine(line, forms)
		if !ok || !ended {
			return nil, len(telegrams), api.ErrSyntax
		}
		telegrams = append(telegrams, t)
		rest = after
	}
	if e := checkTelegrams(telegrams); e != api.OK {
		return nil, len(telegrams), e
	}
	return telegrams, 0, api.OK
}

// parseLine returns the telegram of a line without its line feed; its numbers
// may be out of their ranges.
func parseLine(line string, forms map[string]lineForm) (Telegram, bool) {
	left := words{rest: line}
	next := left.next
	word, _ := next()
	form, ok := forms[word]
	if !ok {
		return Telegram{}, false
	}
	numbers := make([]int, form.numbers)
	for i := range numbers {
		word, there := next()
		n, ok := integer(word)
		if !there || !ok {
			return Telegram{}, false
		}
		numbers[i] = n
	}
	if _, there := next(); there {
		return Telegram{}, false
	}
	return form.telegram(numbers), true
}

// words is the words of a line that are still to be taken.
type words struct {
	rest string
	over bool
}

// next takes the next word, if there is one; it is empty between two spaces.
func (w *words) next() (string, bool) {
	if w.over {
		return "", false
	}
	word, rest, more := strings.Cut(w.rest, " ")
	w.rest, w.over = rest, !more
	return word, true
}

// integer returns the integer that a word is in the one way to write it.
func integer(word string) (int, bool) {
	digits := strings.TrimPrefix(word, "-")
	if len(digits) < 1 || len(digits) > maxDigits {
		return 0, false
	}
	for _, r := range digits {
		if !isDigit(r) {
			return 0, false
		}
	}
	if digits[0] == '0' && word != "0" {
		return 0, false
	}
	n, err := strconv.Atoi(word)
	return n, err == nil
}
