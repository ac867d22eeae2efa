package start

import (
	"strconv"

	"bipole/api"
	"bipole/check"
	"bipole/text"
)

// The words of the text of a plant.
const (
	plantWord = "plant"
	partWord  = "part"
	needWord  = "need"
)

// lineForm is the first word of a line, and how the others are taken for a plant.
type lineForm struct {
	word string
	take func(line *text.Line, p *Plant)
}

// lineForms returns the form of the first line, that of the line of a part, and
// that of a line of a part's need.
func lineForms() [3]lineForm {
	return [3]lineForm{
		{word: plantWord, take: func(line *text.Line, p *Plant) { p.Capacity = line.Integer() }},
		{word: partWord, take: func(line *text.Line, p *Plant) { p.Parts = append(p.Parts, takePart(line)) }},
		{word: needWord, take: func(line *text.Line, p *Plant) {
			last := &p.Parts[len(p.Parts)-1]
			last.Needs = append(last.Needs, line.Word())
		}},
	}
}

// takePart takes a part from a line.
func takePart(line *text.Line) Part {
	word, integer := line.Word, line.Integer
	x := Part{Name: word()}
	x.Inrush = integer()
	x.Load = integer()
	x.Minutes = integer()
	return x
}

// Print returns the text of a plant.
func Print(p Plant) (string, api.Errno) {
	if e := CheckPlant(p); e != api.OK {
		return "", e
	}
	s := text.Numbered(plantWord, []int{p.Capacity})
	for _, x := range p.Parts {
		s += text.Written(partWord, x.Name, strconv.Itoa(x.Inrush), strconv.Itoa(x.Load), strconv.Itoa(x.Minutes))
		for _, name := range x.Needs {
			s += text.Written(needWord, name)
		}
	}
	return s, api.OK
}

// Parse returns the plant of a text, and the index of the first line that is wrong.
func Parse(s string) (Plant, int, api.Errno) {
	if s == "" {
		return Plant{}, 0, api.ErrSyntax
	}
	var p Plant
	forms := lineForms()
	at, e := text.Read(s, api.MaxText, func(i int, line *text.Line) bool {
		switch {
		case i == 0:
			return readLine(line, forms[:1], &p)
		case len(p.Parts) == 0: // there is no part yet that could need another one
			return readLine(line, forms[1:2], &p)
		}
		return readLine(line, forms[1:], &p)
	})
	if e := check.First(e, CheckPlant(p)); e != api.OK {
		return Plant{}, at, e
	}
	return p, 0, api.OK
}

// readLine takes the words of a line for a plant by the form of its first word, and
// reports whether there is one.
func readLine(line *text.Line, forms []lineForm, p *Plant) bool {
	word := line.Word()
	for _, form := range forms {
		if form.word == word {
			form.take(line, p)
			return true
		}
	}
	return false
}
