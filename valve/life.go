package valve

import (
	"bipole/api"
	"bipole/check"
	"bipole/phasor"
)

// sixteenths is how many units of a weight are 1.
const sixteenths = 16

// Missing returns the valves whose links are missing.
func Missing(l []Ack, tick, limit int) ([]int, api.Errno) {
	if e := check.First(check.List(l, MaxAcks, checkAck), checkTick(tick), checkTick(limit)); e != api.OK {
		return nil, e
	}
	var heard [Valves]bool
	for _, a := range l {
		if a.Tick >= tick-limit && a.Tick <= tick {
			heard[a.Valve] = true
		}
	}
	return valvesThat(func(valve int) bool { return !heard[valve] }), api.OK
}

func checkAck(a Ack) api.Errno {
	return check.First(checkValve(a.Valve), checkTick(a.Tick))
}

// valvesThat returns the valves of which something is true, ascending.
func valvesThat(is func(valve int) bool) []int {
	var l []int
	for valve := range Valves {
		if is(valve) {
			l = append(l, valve)
		}
	}
	return l
}

// Wear returns the wear of all valves.
func Wear(l []Pulse, weights [Valves]int) ([Valves]float32, api.Errno) {
	switchings, e := Switchings(l)
	if e := check.First(e, check.Each(weights[:], checkWeight)); e != api.OK {
		return [Valves]float32{}, e
	}
	var wear [Valves]float32
	for valve := range Valves {
		wear[valve] = float32(weights[valve]*switchings[valve]) / sixteenths
	}
	if check.Each(wear[:], phasor.CheckSample) != api.OK {
		return [Valves]float32{}, api.ErrLarge
	}
	return wear, api.OK
}

func checkWeight(weight int) api.Errno {
	return check.Range(weight, 0, MaxWeight)
}

// Worn returns the worn valves.
func Worn(wear [Valves]float32, limit float32) ([]int, api.Errno) {
	if e := check.First(check.Each(wear[:], phasor.CheckSample), phasor.CheckSample(limit)); e != api.OK {
		return nil, e
	}
	return valvesThat(func(valve int) bool { return wear[valve] > limit }), api.OK
}
