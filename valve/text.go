package valve

import (
	"bipole/api"
	"bipole/check"
	"bipole/text"
)

// The words of the text of a log.
const (
	logWord   = "log"
	pulseWord = "pulse"
)

// integerForm is the word of the line in which an integer stands, and what the
// integer sets in a log.
type integerForm struct {
	word string
	set  func(l *Log, n int)
}

// integerForms returns the forms of the integers of the first line, and behind
// them those of each other one, in their order.
func integerForms() [3]integerForm {
	return [3]integerForm{
		{word: logWord, set: func(l *Log, n int) { l.Controller = n }},
		{word: pulseWord, set: func(l *Log, n int) { l.Train = append(l.Train, Pulse{Tick: n}) }},
		{word: pulseWord, set: func(l *Log, n int) { l.Train[len(l.Train)-1].Pulses = n }},
	}
}

// Print returns the text of a log.
func Print(l Log) (string, api.Errno) {
	if e := checkLog(l); e != api.OK {
		return "", e
	}
	s := text.Numbered(logWord, []int{l.Controller})
	for _, p := range l.Train {
		s += text.Numbered(pulseWord, []int{p.Tick, p.Pulses})
	}
	return s, api.OK
}

// Parse returns the log of a text, and the index of the first line that is wrong.
func Parse(s string) (Log, int, api.Errno) {
	if s == "" {
		return Log{}, 0, api.ErrSyntax
	}
	var l Log
	forms := integerForms()
	at, e := text.Read(s, api.MaxText, func(i int, line *text.Line) bool {
		if i == 0 {
			return readLine(line, forms[:1], &l)
		}
		return readLine(line, forms[1:], &l)
	})
	if e := check.First(e, checkLog(l)); e != api.OK {
		return Log{}, at, e
	}
	return l, 0, api.OK
}

// readLine takes the integers of a line for a log, and reports whether the first
// word is that of the line.
func readLine(line *text.Line, forms []integerForm, l *Log) bool {
	word, number := line.Word, line.Number
	known := word() == forms[0].word
	for _, form := range forms {
		form.set(l, number())
	}
	return known
}
