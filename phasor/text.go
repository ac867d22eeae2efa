package phasor

import (
	"strings"

	"bipole/api"
	"bipole/check"
	"bipole/text"
)

const telegramWord = "telegram"

// Print returns the text of telegrams.
func Print(l []Telegram) (string, api.Errno) {
	if e := checkTelegrams(l); e != api.OK {
		return "", e
	}
	var lines strings.Builder
	for _, t := range l {
		lines.WriteString(text.Numbered(telegramWord, numbersOf(t)))
	}
	return lines.String(), api.OK
}

// numbersOf returns the numbers of a telegram in the order of a line.
func numbersOf(t Telegram) []int {
	return append([]int{t.Source, t.Counter}, t.Values[:]...)
}

// telegramOf returns the telegram with the numbers of a line.
func telegramOf(numbers []int) Telegram {
	t := Telegram{Source: numbers[0], Counter: numbers[1]}
	copy(t.Values[:], numbers[2:])
	return t
}

// lineForm is what follows the first word of a line, and what it says.
type lineForm struct {
	numbers  int
	telegram func(numbers []int) Telegram
}

// lineForms returns the forms of lines by their first words.
func lineForms() map[string]lineForm {
	return map[string]lineForm{telegramWord: {numbers: 6, telegram: telegramOf}}
}

// Parse returns the telegrams of a text, and the index of the first line that is wrong.
func Parse(s string) ([]Telegram, int, api.Errno) {
	forms := lineForms()
	var telegrams []Telegram
	at, e := text.Read(s, api.MaxLog, func(_ int, line *text.Line) bool {
		t, known := readTelegram(line, forms)
		telegrams = append(telegrams, t)
		return known
	})
	if e := check.First(e, checkTelegrams(telegrams)); e != api.OK {
		return nil, at, e
	}
	return telegrams, 0, api.OK
}

// readTelegram takes a telegram, whose numbers may be out of their ranges, from
// a line, and reports whether its first word is known.
func readTelegram(line *text.Line, forms map[string]lineForm) (Telegram, bool) {
	word, integer := line.Word, line.Integer
	form, known := forms[word()]
	if !known {
		return Telegram{}, false
	}
	numbers := make([]int, form.numbers)
	for i := range numbers {
		numbers[i] = integer()
	}
	return form.telegram(numbers), true
}
