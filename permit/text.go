package permit

import (
	"bipole/api"
	"bipole/check"
	"bipole/text"
)

// The words of the text of a yard beside the kinds of switches.
const (
	sectionWord = "section"
	permitWord  = "permit"
	sourceWord  = "source"
	plainWord   = "plain"
	closedWord  = "closed"
	openWord    = "open"
)

// Print returns the text of a yard.
func Print(y Yard) (string, api.Errno) {
	if e := CheckYard(y); e != api.OK {
		return "", e
	}
	s := ""
	for _, x := range y.Sections {
		s += text.Written(sectionWord, x.Name, chosen(x.Source, sourceWord, plainWord))
	}
	for _, x := range y.Switches {
		words := []string{x.Kind, x.Name, y.Sections[x.A].Name}
		if x.Kind != earthKind {
			words = append(words, y.Sections[x.B].Name)
		}
		s += text.Written(append(words, chosen(x.Closed, closedWord, openWord))...)
	}
	for _, x := range y.Permits {
		s += text.Written(permitWord, x.Name, y.Sections[x.Section].Name)
	}
	return s, api.OK
}

// chosen returns the first word if something holds, and otherwise the second one.
func chosen(holds bool, yes, no string) string {
	if holds {
		return yes
	}
	return no
}

// reading is a yard that is read line by line, and the indices of its sections by their
// names.
type reading struct {
	Yard
	sections map[string]int
}

// Parse returns the yard with a text, or the index of the first line that is wrong.
func Parse(s string) (Yard, int, api.Errno) {
	r := reading{sections: map[string]int{}}
	at, e := text.Read(s, api.MaxText, r.take)
	if e := check.First(e, CheckYard(r.Yard)); e != api.OK {
		return Yard{}, at, e
	}
	return r.Yard, 0, api.OK
}

// take takes the words of a line, and reports whether a line with the first one of them
// may stand here.
func (r *reading) take(_ int, line *text.Line) bool {
	word := line.Word
	switch first := word(); {
	case first == sectionWord && len(r.Switches) == 0 && len(r.Permits) == 0:
		x := Section{Name: word()}
		x.Source = line.Either(sourceWord, plainWord)
		r.sections[x.Name] = len(r.Sections)
		r.Sections = append(r.Sections, x)
	case isSwitchKind(first) && len(r.Permits) == 0:
		x := Switch{Kind: first, Name: word(), B: ground}
		x.A = r.section(line)
		if first != earthKind {
			x.B = r.section(line)
		}
		x.Closed = line.Either(closedWord, openWord)
		r.Switches = append(r.Switches, x)
	case first == permitWord:
		x := Permit{Name: word()}
		x.Section = r.section(line)
		r.Permits = append(r.Permits, x)
	default:
		return false
	}
	return true
}

// section takes the name of a section from a line, and returns its index.
func (r *reading) section(line *text.Line) int {
	i, known := r.sections[line.Word()]
	line.Refuse(check.That(known, api.ErrUnknown))
	return i
}
