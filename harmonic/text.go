package harmonic

import (
	"bipole/api"
	"bipole/check"
	"bipole/text"
)

const branchWord = "branch"

// lineForm is what a line sets in a filter.
type lineForm struct {
	set func(f *Filter, l, c int)
}

// lineForms returns the forms of lines by their first words.
func lineForms() map[string]lineForm {
	return map[string]lineForm{
		branchWord: {set: func(f *Filter, l, c int) { f.Branches = append(f.Branches, Branch{L: l, C: c}) }},
	}
}

// Print returns the text of a filter.
func Print(f Filter) (string, api.Errno) {
	if e := CheckFilter(f); e != api.OK {
		return "", e
	}
	s := ""
	for _, b := range f.Branches {
		s += text.Numbered(branchWord, []int{b.L, b.C})
	}
	return s, api.OK
}

// Parse returns the filter of a text, and the index of the first line that is wrong.
func Parse(s string) (Filter, int, api.Errno) {
	var f Filter
	forms := lineForms()
	at, e := text.Read(s, api.MaxText, func(_ int, line *text.Line) bool {
		word, number := line.Word, line.Number
		form, known := forms[word()]
		if known {
			l := number()
			c := number()
			form.set(&f, l, c)
		}
		return known
	})
	if e := check.First(e, CheckFilter(f)); e != api.OK {
		return Filter{}, at, e
	}
	return f, 0, api.OK
}
