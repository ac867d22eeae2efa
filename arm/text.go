package arm

import (
	"strconv"

	"bipole/api"
	"bipole/check"
	"bipole/text"
)

// The words of the text of an arm.
const (
	armWord      = "arm"
	moduleWord   = "module"
	onWord       = "on"
	offWord      = "off"
	bypassedWord = "bypassed"
)

// Print returns the text of an arm.
func Print(a Arm) (string, api.Errno) {
	if e := CheckArm(a); e != api.OK {
		return "", e
	}
	s := text.Written(armWord, strconv.Itoa(a.Band.Low), strconv.Itoa(a.Band.High), strconv.Itoa(a.Current), strconv.Itoa(a.Limit))
	for _, m := range a.Modules {
		s += text.Written(moduleWord, m.Name, strconv.Itoa(m.Charge), stateOf(m))
	}
	return s, api.OK
}

func stateOf(m Module) string {
	switch {
	case m.Bypassed:
		return bypassedWord
	case m.On:
		return onWord
	}
	return offWord
}

// stateForm is what the word of a state says of a module.
type stateForm struct {
	set func(m *Module)
}

// stateForms returns the states of modules by their words.
func stateForms() map[string]stateForm {
	return map[string]stateForm{
		onWord:       {set: func(m *Module) { m.On = true }},
		offWord:      {set: func(*Module) {}},
		bypassedWord: {set: func(m *Module) { m.Bypassed = true }},
	}
}

// Parse returns the arm with a text, or the index of the first line that is wrong.
func Parse(s string) (Arm, int, api.Errno) {
	if s == "" {
		return Arm{}, 0, api.ErrSyntax
	}
	var a Arm
	forms := stateForms()
	at, e := text.Read(s, api.MaxText, func(i int, line *text.Line) bool {
		if i == 0 {
			return readArm(line, &a)
		}
		m, known := readModule(line, forms)
		a.Modules = append(a.Modules, m)
		return known
	})
	if e := check.First(e, CheckArm(a)); e != api.OK {
		return Arm{}, at, e
	}
	return a, 0, api.OK
}

// readArm takes all but the modules of an arm from a line, and reports whether
// its first word is known.
func readArm(line *text.Line, a *Arm) bool {
	word, number := line.Word, line.Number
	first := word()
	a.Band.Low = number()
	a.Band.High = number()
	a.Current = number()
	a.Limit = number()
	return first == armWord
}

// readModule takes a module from a line, and reports whether its first word and
// that of its state are known.
func readModule(line *text.Line, forms map[string]stateForm) (Module, bool) {
	word, number := line.Word, line.Number
	first := word()
	m := Module{Name: word()}
	m.Charge = number()
	form, known := forms[word()]
	if first != moduleWord || !known {
		return Module{}, false
	}
	form.set(&m)
	return m, true
}
