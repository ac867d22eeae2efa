package flow

import (
	"bipole/api"
	"bipole/check"
	"bipole/text"
)

const orderWord = "order"

// numberForm is what a number of a line sets in an order.
type numberForm struct {
	set func(o *Order, n int)
}

// numberForms returns the forms of the numbers of a line, in their order.
func numberForms() [2]numberForm {
	return [2]numberForm{
		{set: func(o *Order, n int) { o.Tick = n }},
		{set: func(o *Order, n int) { o.Power = n }},
	}
}

// Print returns the text of orders.
func Print(l []Order) (string, api.Errno) {
	if e := CheckOrders(l); e != api.OK {
		return "", e
	}
	s := ""
	for _, o := range l {
		s += text.Numbered(orderWord, []int{o.Tick, o.Power})
	}
	return s, api.OK
}

// Parse returns the orders of a text, and the index of the first line that is wrong.
func Parse(s string) ([]Order, int, api.Errno) {
	var l []Order
	forms := numberForms()
	at, e := text.Read(s, api.MaxText, func(_ int, line *text.Line) bool {
		word, integer := line.Word, line.Integer
		known := word() == orderWord
		var o Order
		for _, form := range forms {
			form.set(&o, integer())
		}
		l = append(l, o)
		return known
	})
	if e := check.First(e, CheckOrders(l)); e != api.OK {
		return nil, at, e
	}
	return l, 0, api.OK
}
