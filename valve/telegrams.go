package valve

import (
	"math"

	"bipole/api"
	"bipole/check"
	"bipole/list"
	"bipole/phasor"
	"bipole/whole"
)

// counters is how many counters telegrams have: 0 follows the last one.
const counters = math.MaxUint16 + 1

// Telegrams returns the telegrams of a log.
func Telegrams(l Log) ([]phasor.Telegram, api.Errno) {
	if e := checkLog(l); e != api.OK {
		return nil, e
	}
	return list.Mapped(l.Train, func(p Pulse) phasor.Telegram {
		return phasor.Telegram{Source: l.Controller, Counter: whole.Remainder(p.Tick, counters), Values: [4]int{p.Pulses}}
	}), api.OK
}

// Received returns the log of telegrams.
func Received(l []phasor.Telegram, source, start int) (Log, api.Errno) {
	e := check.First(
		check.List(l, phasor.MaxTelegrams, phasor.CheckTelegram),
		checkController(source),
		checkTick(start))
	if e != api.OK {
		return Log{}, e
	}
	train, e := received(l, source, start)
	if e != api.OK {
		return Log{}, e
	}
	return Log{Controller: source, Train: train}, api.OK
}

// received returns the train of the telegrams of a source, whose first tick is not
// below the least one.
func received(l []phasor.Telegram, source, least int) ([]Pulse, api.Errno) {
	var train []Pulse
	for _, t := range l {
		if t.Source != source {
			continue
		}
		p := Pulse{Tick: least + whole.Remainder(t.Counter-least, counters), Pulses: t.Values[0]}
		if t.Values != [4]int{p.Pulses} || checkSet(p.Pulses) != api.OK {
			return nil, api.ErrForm
		}
		if p.Tick > api.MaxTime {
			return nil, api.ErrLarge
		}
		train = append(train, p)
		least = p.Tick + 1
	}
	if len(train) > MaxPulses {
		return nil, api.ErrMany
	}
	return train, api.OK
}
