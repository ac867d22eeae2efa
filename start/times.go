package start

import (
	"bipole/api"
	"bipole/check"
)

// First returns the first tick from which on some minutes are free.
func First(blocked []api.Span, from, minutes int) (int, api.Errno) {
	e := check.First(checkBlocked(blocked), checkTick(from), check.Range(minutes, 1, api.MaxTime))
	if e != api.OK {
		return 0, e
	}
	return firstFree(blocked, from, minutes)
}

func checkTick(tick int) api.Errno {
	return check.Range(tick, 0, api.MaxTime)
}

func checkBlocked(l []api.Span) api.Errno {
	return check.Successive(l, api.MaxList, func(before []api.Span, s api.Span) api.Errno {
		return check.First(
			check.That(s.From >= 0 && s.From < s.To && s.To <= api.MaxTime, api.ErrSpan),
			check.That(len(before) == 0 || s.From >= before[len(before)-1].To, api.ErrOrder))
	})
}

// firstFree returns the first tick from one on from which on minutes are free, or
// ErrNone.
func firstFree(blocked []api.Span, tick, minutes int) (int, api.Errno) {
search:
	for _, s := range blocked {
		switch {
		case s.From >= tick+minutes:
			break search
		case s.To > tick:
			tick = s.To
		}
	}
	if tick+minutes > api.MaxTime {
		return 0, api.ErrNone
	}
	return tick, api.OK
}

// Times returns the ticks at which the steps of an order begin.
func Times(p Plant, order []int, blocked []api.Span, from int) ([]int, api.Errno) {
	_, _, e := CheckOrder(p, order)
	if e := check.First(e, checkBlocked(blocked), checkTick(from)); e != api.OK {
		return nil, e
	}
	var ticks []int
	for _, part := range order {
		minutes := p.Parts[part].Minutes
		tick, e := firstFree(blocked, from, minutes)
		if e != api.OK {
			return nil, e
		}
		ticks = append(ticks, tick)
		from = tick + minutes
	}
	return ticks, api.OK
}
