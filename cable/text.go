package cable

import (
	"bipole/api"
	"bipole/check"
	"bipole/text"
)

// The words of the text of a cable.
const (
	cableWord   = "cable"
	sectionWord = "section"
	jointWord   = "joint"
)

// wordOf returns the word of a line.
func wordOf(line int) string {
	switch {
	case line == 0:
		return cableWord
	case line%2 == 1:
		return sectionWord
	}
	return jointWord
}

// lineForm is how many integers a line has, and what they say of a cable.
type lineForm struct {
	integers int
	set      func(c *Cable, integers []int)
}

// lineForms returns the forms of lines by their words.
func lineForms() map[string]lineForm {
	return map[string]lineForm{
		cableWord:   {integers: 2, set: func(c *Cable, l []int) { c.Ends = [2]int{l[0], l[1]} }},
		sectionWord: {integers: 2, set: func(c *Cable, l []int) { c.Sections = append(c.Sections, Section{Length: l[0], Delay: l[1]}) }},
		jointWord:   {integers: 1, set: func(c *Cable, l []int) { c.Joints = append(c.Joints, l[0]) }},
	}
}

// Print returns the text of a cable.
func Print(c Cable) (string, api.Errno) {
	if e := CheckCable(c); e != api.OK {
		return "", e
	}
	s := text.Numbered(cableWord, c.Ends[:])
	for i, section := range c.Sections {
		if i > 0 {
			s += text.Numbered(jointWord, c.Joints[i-1:i])
		}
		s += text.Numbered(sectionWord, []int{section.Length, section.Delay})
	}
	return s, api.OK
}

// Parse returns the cable with a text, or the index of the first line that is wrong.
func Parse(s string) (Cable, int, api.Errno) {
	var c Cable
	forms := lineForms()
	at, e := text.Read(s, api.MaxText, func(i int, line *text.Line) bool {
		word, integer := line.Word, line.Integer
		form := forms[wordOf(i)]
		known := word() == wordOf(i)
		integers := make([]int, form.integers)
		for k := range integers {
			integers[k] = integer()
		}
		form.set(&c, integers)
		return known
	})
	if e := check.First(e, checkLines(at), CheckCable(c)); e != api.OK {
		return Cable{}, at, e
	}
	return c, 0, api.OK
}

// checkLines returns ErrSyntax for a number of lines that no text of a cable has:
// none at all, or those up to a joint.
func checkLines(lines int) api.Errno {
	if lines == 0 || wordOf(lines-1) == jointWord {
		return api.ErrSyntax
	}
	return api.OK
}
