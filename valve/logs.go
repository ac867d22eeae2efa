package valve

import (
	"iter"
	"maps"
	"math"
	"slices"
	"sort"

	"bipole/api"
	"bipole/check"
	"bipole/list"
	"bipole/whole"
)

// CheckLogs returns the first error of logs, or OK.
func CheckLogs(l []Log) api.Errno {
	return check.Successive(l, MaxLogs, func(before []Log, x Log) api.Errno {
		return check.First(checkLog(x), check.Once(before, x, func(l Log) int { return l.Controller }))
	})
}

// checkLog returns the error of a log, or OK.
func checkLog(l Log) api.Errno {
	return check.First(checkController(l.Controller), CheckTrain(l.Train))
}

func checkController(controller int) api.Errno {
	return check.Range(controller, 0, math.MaxUint8)
}

// byTick returns the pulses of logs by their ticks.
func byTick(l ...Log) map[int][]Pulse {
	pulses := map[int][]Pulse{}
	for _, x := range l {
		for _, p := range x.Train {
			pulses[p.Tick] = append(pulses[p.Tick], p)
		}
	}
	return pulses
}

// common visits the pulses of two logs at the ticks that both have, ascending.
func common(a, b Log) iter.Seq2[Pulse, Pulse] {
	return func(yield func(Pulse, Pulse) bool) {
		others := byTick(b)
		for _, p := range a.Train {
			for _, other := range others[p.Tick] {
				if !yield(p, other) {
					return
				}
			}
		}
	}
}

// Differ returns the first tick at which two logs differ, and whether there is one.
func Differ(a, b Log) (int, bool, api.Errno) {
	if e := check.First(checkLog(a), checkLog(b)); e != api.OK {
		return 0, false, e
	}
	for p, other := range common(a, b) {
		if p != other {
			return p.Tick, true, api.OK
		}
	}
	return 0, false, api.OK
}

// ChangeOver returns the first tick at which a change-over is possible.
func ChangeOver(a, b Log, from, hold int) (int, api.Errno) {
	e := check.First(checkLog(a), checkLog(b), checkTick(from), check.Range(hold, 1, MaxHold))
	if e != api.OK {
		return 0, e
	}
	ticks := agreed(a, b, from)
	for i := range len(ticks) - hold + 1 {
		// The ticks ascend: so many of them follow each other only if none is left out.
		if ticks[i+hold-1] == ticks[i]+hold-1 {
			return ticks[i], api.OK
		}
	}
	return 0, api.ErrNone
}

// agreed returns the ticks from one on that two logs have and at which they do not
// differ, ascending.
func agreed(a, b Log, from int) []int {
	var ticks []int
	for p, other := range common(a, b) {
		if p == other && p.Tick >= from {
			ticks = append(ticks, p.Tick)
		}
	}
	return ticks
}

// Switched returns the train that is switched at a tick.
func Switched(a, b Log, tick int) ([]Pulse, api.Errno) {
	if e := check.First(checkLog(a), checkLog(b), checkTick(tick)); e != api.OK {
		return nil, e
	}
	train := slices.Concat(a.Train[:earlier(a, tick)], b.Train[earlier(b, tick):])
	if len(train) > MaxPulses {
		return nil, api.ErrMany
	}
	return train, api.OK
}

// earlier returns how many pulses of a log have ticks before one.
func earlier(l Log, tick int) int {
	return sort.Search(len(l.Train), func(i int) bool { return l.Train[i].Tick >= tick })
}

// Behind returns the logs that are behind.
func Behind(l []Log, limit int) ([]int, api.Errno) {
	if e := check.First(CheckLogs(l), checkTick(limit)); e != api.OK {
		return nil, e
	}
	last := list.Mapped(l, func(x Log) int { return lastTick(x.Train) })
	var behind []int
	for i, tick := range last {
		if slices.Max(last)-tick > limit {
			behind = append(behind, i)
		}
	}
	return behind, api.OK
}

// Vote returns the vote of logs.
func Vote(l []Log) ([]Pulse, api.Errno) {
	if e := CheckLogs(l); e != api.OK {
		return nil, e
	}
	pulses := byTick(l...)
	var train []Pulse
	for _, tick := range slices.Sorted(maps.Keys(pulses)) {
		if isMost(len(pulses[tick]), len(l)) {
			train = append(train, Pulse{Tick: tick, Pulses: vote(pulses[tick])})
		}
	}
	return train, api.OK
}

// vote returns the valves that most of the pulses of a tick insert.
func vote(l []Pulse) int {
	valves := 0
	for valve := range Valves {
		inserted := 0
		for _, p := range l {
			if p.has(valve) {
				inserted++
			}
		}
		if isMost(inserted, len(l)) {
			valves |= whole.Bit(valve)
		}
	}
	return valves
}

// isMost reports whether some are more than half of all.
func isMost(some, all int) bool {
	return 2*some > all
}
