package loop

import (
	"bipole/api"
	"bipole/check"
	"bipole/text"
)

// The words of the text of a loop.
const (
	plantNumWord      = "plantnum"
	plantDenWord      = "plantden"
	controllerNumWord = "controllernum"
	controllerDenWord = "controllerden"
)

// words is the words of the lines, in their order.
var words = [4]string{plantNumWord, plantDenWord, controllerNumWord, controllerDenWord}

// lineForm is which polynomial of a loop stands in a line.
type lineForm struct {
	poly func(l *Loop) *Poly
}

// lineForms returns the forms of lines by their words.
func lineForms() map[string]lineForm {
	return map[string]lineForm{
		plantNumWord:      {poly: func(l *Loop) *Poly { return &l.PlantNum }},
		plantDenWord:      {poly: func(l *Loop) *Poly { return &l.PlantDen }},
		controllerNumWord: {poly: func(l *Loop) *Poly { return &l.ControllerNum }},
		controllerDenWord: {poly: func(l *Loop) *Poly { return &l.ControllerDen }},
	}
}

// Print returns the text of a loop.
func Print(l Loop) (string, api.Errno) {
	if e := CheckLoop(l); e != api.OK {
		return "", e
	}
	s := ""
	forms := lineForms()
	for _, word := range words {
		s += text.Numbered(word, *forms[word].poly(&l))
	}
	return s, api.OK
}

// Parse returns the loop of a text, and the index of the first line that is wrong.
func Parse(s string) (Loop, int, api.Errno) {
	var l Loop
	forms := lineForms()
	at, e := text.Read(s, api.MaxText, func(i int, line *text.Line) bool {
		if i >= len(words) {
			return false
		}
		word, p := readPoly(line)
		*forms[words[i]].poly(&l) = p
		return word == words[i]
	})
	if e == api.OK && at < len(words) {
		e = api.ErrShape
	}
	if e := check.First(e, CheckLoop(l)); e != api.OK {
		return Loop{}, at, e
	}
	return l, 0, api.OK
}

// readPoly takes a word and a polynomial, which may be none, from a line.
func readPoly(line *text.Line) (string, Poly) {
	word, integer := line.Word, line.Integer
	first := word()
	p := Poly{integer()}
	for line.More() {
		p = append(p, integer())
	}
	return first, p
}
