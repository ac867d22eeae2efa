package permit

import (
	"bipole/api"
	"bipole/check"
	"bipole/list"
	"bipole/whole"
)

// The kinds of acts.
const (
	moveKind   = "move"
	grantKind  = "grant"
	returnKind = "return"
)

// lock is the name of a lock, and whether it forbids that a switch moves, which makes
// one survey of its yard another one.
type lock struct {
	name    string
	forbids func(x Switch, before, after survey) bool
}

// locks returns the locks of a switch, in their order.
func locks() [4]lock {
	return [4]lock{
		{name: "load", forbids: func(x Switch, before, after survey) bool {
			return x.Kind == isolatorKind && after.energized != before.energized
		}},
		{name: "short", forbids: func(_ Switch, _, after survey) bool { return after.isShort() }},
		{name: "apart", forbids: func(x Switch, before, _ survey) bool {
			return x.Kind == earthKind && !x.Closed && !whole.Has(before.separated, x.A)
		}},
		{name: "permit", forbids: func(_ Switch, _, after survey) bool { return after.isOpen() }},
	}
}

// why returns the name of the first lock of a switch, or the empty string.
func (y Yard) why(i int) string {
	before, after := y.survey(), y.moved(i).survey()
	for _, l := range locks() {
		if l.forbids(y.Switches[i], before, after) {
			return l.name
		}
	}
	return ""
}

// moved returns the yard after a move of a switch, whether it has a lock or not.
func (y Yard) moved(i int) Yard {
	after := y.copied()
	after.Switches[i].Closed = !y.Switches[i].Closed
	return after
}

// Why returns the first lock of a switch.
func Why(y Yard, name string) (string, api.Errno) {
	if e := CheckYard(y); e != api.OK {
		return "", e
	}
	i, known := list.Indices(y.Switches, Switch.name)[name]
	if !known {
		return "", api.ErrUnknown
	}
	return y.why(i), api.OK
}

// Move returns a yard in which a switch has moved.
func Move(y Yard, name string) (Yard, api.Errno) {
	if e := CheckYard(y); e != api.OK {
		return Yard{}, e
	}
	return y.move(name)
}

// move returns the yard after a move of the switch with a name, or why there is none.
func (y Yard) move(name string) (Yard, api.Errno) {
	i, known := list.Indices(y.Switches, Switch.name)[name]
	switch {
	case !known:
		return Yard{}, api.ErrUnknown
	case y.why(i) != "":
		return Yard{}, api.ErrRule
	}
	return y.moved(i), api.OK
}

// Grant returns a yard with a permit.
func Grant(y Yard, name, section string) (Yard, api.Errno) {
	if e := CheckYard(y); e != api.OK {
		return Yard{}, e
	}
	return y.grant(name, section)
}

// grant returns the yard with a new permit for the section with a name, or why there is
// none.
func (y Yard) grant(name, section string) (Yard, api.Errno) {
	i, known := list.Indices(y.Sections, Section.name)[section]
	granted := Permit{Name: name, Section: i}
	e := check.First(
		checkName(y.Permits, granted, Permit.name),
		check.That(known, api.ErrUnknown),
		check.That(whole.Has(y.survey().secured(), i), api.ErrRule),
		check.That(len(y.Permits) < MaxPermits, api.ErrMany))
	if e != api.OK {
		return Yard{}, e
	}
	after := y.copied()
	after.Permits = append(after.Permits, granted)
	return after, api.OK
}

// Return returns a yard without a permit.
func Return(y Yard, name string) (Yard, api.Errno) {
	if e := CheckYard(y); e != api.OK {
		return Yard{}, e
	}
	return y.without(name)
}

// without returns the yard without the permit with a name, or ErrUnknown if there is
// none.
func (y Yard) without(name string) (Yard, api.Errno) {
	i, known := list.Indices(y.Permits, Permit.name)[name]
	if !known {
		return Yard{}, api.ErrUnknown
	}
	returned := y.Permits[i]
	after := y.copied()
	after.Permits = list.Filtered(y.Permits, func(x Permit) bool { return x != returned })
	return after, api.OK
}

// Play returns a yard after acts.
func Play(y Yard, l []Act) (Yard, int, api.Errno) {
	if e := check.First(CheckYard(y), check.That(len(l) <= MaxActs, api.ErrMany)); e != api.OK {
		return Yard{}, 0, e
	}
	after := y.copied()
	for i, a := range l {
		next, e := after.act(a)
		if e != api.OK {
			return Yard{}, i, e
		}
		after = next
	}
	return after, 0, api.OK
}

// act returns the yard after an act, or why there is none.
func (y Yard) act(a Act) (Yard, api.Errno) {
	switch {
	case a.Kind == grantKind:
		return y.grant(a.Name, a.Section)
	case a.Kind != moveKind && a.Kind != returnKind:
		return Yard{}, api.ErrKind
	case a.Section != "":
		return Yard{}, api.ErrForm
	case a.Kind == moveKind:
		return y.move(a.Name)
	}
	return y.without(a.Name)
}
