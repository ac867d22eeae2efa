package books

import (
	"slices"

	"bipole/api"
	"bipole/check"
	"bipole/list"
)

// step is an event that counts, and the register after it.
type step struct {
	event    api.Event
	register Register
}

// history is events of which each one was accepted after those before it, and the steps
// of those that count.
type history struct {
	events []api.Event
	steps  []step
}

// historyOf returns the history of events, or the number of the first one that is wrong
// or not accepted.
func historyOf(l []api.Event) (history, int, api.Errno) {
	if len(l) > api.MaxEvents {
		return history{}, 0, api.ErrMany
	}
	var h history
	all := allKinds()
	for i, e := range l {
		if bad := h.check(all, e); bad != api.OK {
			return history{}, i + 1, bad
		}
		h.add(all, e)
	}
	return h, 0, api.OK
}

// register returns the register after all events.
func (h history) register() Register {
	if len(h.steps) == 0 {
		return Register{}
	}
	return h.steps[len(h.steps)-1].register
}

// next returns the number of the next event.
func (h history) next() int {
	return len(h.events) + 1
}

// check returns the first error of an event by itself, and otherwise the one with which
// it is not accepted, or OK.
func (h history) check(all kinds, e api.Event) api.Errno {
	bad := check.First(all.check(e), check.That(e.Number == h.next(), api.ErrOrder))
	switch {
	case bad != api.OK:
		return bad
	case e.Kind == undoKind:
		return h.checkUndo()
	}
	r, k := h.register(), all[e.Kind]
	bad = check.First(check.That(tickOf(e) >= r.Tick, api.ErrState), k.checkNames(r, e.Names))
	if bad != api.OK {
		return bad
	}
	return k.check(r, e)
}

// checkUndo returns the error with which an undo is not accepted.
func (h history) checkUndo() api.Errno {
	if len(h.steps) == 0 {
		return api.ErrEmpty
	}
	last := h.steps[len(h.steps)-1].event
	return check.That(last.Kind != settleKind, api.ErrRule)
}

// add adds an event that is accepted.
func (h *history) add(all kinds, e api.Event) {
	h.events = append(h.events, e)
	if e.Kind == undoKind {
		h.steps = h.steps[:len(h.steps)-1]
		return
	}
	after := all[e.Kind].change(h.register(), e)
	after.Tick = tickOf(e)
	h.steps = append(h.steps, step{event: e, register: after})
}

// copied returns an event with another number that shares no memory with this one.
func copied(e api.Event, number int) api.Event {
	return api.Event{Number: number, Kind: e.Kind, Names: slices.Clone(e.Names), Values: slices.Clone(e.Values)}
}

// Replay returns the register after some events.
func Replay(l []api.Event) (Register, int, api.Errno) {
	h, at, bad := historyOf(l)
	return h.register(), at, bad
}

// Accepts returns the error with which an event is not accepted after others, or OK.
func Accepts(l []api.Event, e api.Event) api.Errno {
	h, _, bad := historyOf(l)
	return check.First(
		bad,
		CheckEvent(e),
		check.That(len(l) < api.MaxEvents, api.ErrMany),
		h.check(allKinds(), e))
}

// AsOf returns the register of the events up to a tick.
func AsOf(l []api.Event, tick int) (Register, api.Errno) {
	h, _, bad := historyOf(l)
	if bad := check.First(bad, checkValue(tick)); bad != api.OK {
		return Register{}, bad
	}
	return h.asOf(tick), api.OK
}

// asOf returns the register after the events that count and are not after a tick.
func (h history) asOf(tick int) Register {
	var r Register
	for _, s := range h.steps {
		if s.register.Tick > tick {
			break
		}
		r = s.register
	}
	return r
}

// Story returns the story of a station.
func Story(l []api.Event, station string) ([]api.Event, api.Errno) {
	h, _, bad := historyOf(l)
	if bad := check.First(bad, h.register().checkStation(station)); bad != api.OK {
		return nil, bad
	}
	return h.story(station), api.OK
}

// story returns the events that count and are about a station, with numbers of their
// own.
func (h history) story(station string) []api.Event {
	r, all := h.register(), allKinds()
	about := list.Filtered(h.steps, func(s step) bool { return all[s.event.Kind].isAbout(r, s.event, station) })
	story := make([]api.Event, len(about))
	for i, s := range about {
		story[i] = copied(s.event, i+1)
	}
	return story
}
