package valve_test

import (
	"fmt"
	"math"
	"math/rand"
	"slices"
	"strings"
	"testing"

	"bipole/api"
	"bipole/valve"
)

// is fails a test if a result is not the expected one.
func is[T comparable](t *testing.T, what string, got, want T) {
	t.Helper()
	if got != want {
		t.Errorf("%s: got %v, want %v", what, got, want)
	}
}

// isList fails a test if a list is not the expected one; nil and empty lists are equal.
func isList[T comparable](t *testing.T, what string, got, want []T) {
	t.Helper()
	if !slices.Equal(got, want) {
		t.Errorf("%s: got %v, want %v", what, got, want)
	}
}

// isLog fails a test if a log is not the expected one.
func isLog(t *testing.T, what string, got, want valve.Log) {
	t.Helper()
	is(t, what+": controller", got.Controller, want.Controller)
	isList(t, what+": train", got.Train, want.Train)
}

// beyond returns integers that are not from low to high.
func beyond(low, high int) []int {
	return []int{low - 1, high + 1, -1 << 40, 1 << 40, math.MinInt, math.MaxInt}
}

// between returns a random integer from low to high.
func between(r *rand.Rand, low, high int) int {
	return low + r.Intn(high-low+1)
}

// train returns pulses at successive ticks from one on.
func train(from int, pulses ...int) []valve.Pulse {
	var l []valve.Pulse
	for i, n := range pulses {
		l = append(l, valve.Pulse{Tick: from + i, Pulses: n})
	}
	return l
}

// at returns pulses, each a tick and its pulses.
func at(l ...[2]int) []valve.Pulse {
	var result []valve.Pulse
	for _, p := range l {
		result = append(result, valve.Pulse{Tick: p[0], Pulses: p[1]})
	}
	return result
}

// logOf returns the log of a controller.
func logOf(controller int, l []valve.Pulse) valve.Log {
	return valve.Log{Controller: controller, Train: l}
}

// a, b and c are the logs A, B and C of the chapter's examples.
func a() valve.Log { return logOf(0, train(1, 3, 3, 5, 5)) }

func b() valve.Log { return logOf(1, train(1, 3, 1, 5, 5, 4)) }

func c() valve.Log { return logOf(2, at([2]int{2, 1}, [2]int{4, 5})) }

// longTrain returns a train of so many pulses from a tick on.
func longTrain(from, pulses int) []valve.Pulse {
	return train(from, make([]int, pulses)...)
}

// randomTrain returns a train of up to so many pulses, most of them at successive
// ticks, whose first tick is not before one.
func randomTrain(r *rand.Rand, from, most int) []valve.Pulse {
	var l []valve.Pulse
	valves := []int{1, 7, 4095}[r.Intn(3)]
	for range between(r, 0, most) {
		if r.Intn(4) == 0 {
			from += r.Intn(4)
		}
		l = append(l, valve.Pulse{Tick: from, Pulses: r.Intn(4096) & valves})
		from++
	}
	return l
}

// similar returns a train with some other pulses and ticks.
func similar(r *rand.Rand, l []valve.Pulse) []valve.Pulse {
	var result []valve.Pulse
	rare := between(r, 2, 20)
	for _, p := range l {
		if r.Intn(rare) == 0 {
			p.Pulses ^= 1 << r.Intn(12)
		}
		if r.Intn(rare) > 0 {
			result = append(result, p)
		}
	}
	return result
}

// randomLogs returns logs that have many of their pulses in common.
func randomLogs(r *rand.Rand) []valve.Log {
	common := randomTrain(r, r.Intn(5), 30)
	var l []valve.Log
	for i, controller := range r.Perm(256)[:between(r, 0, 6)] {
		l = append(l, logOf(controller, similar(r, common)))
		if r.Intn(6) == 0 {
			l[i].Train = randomTrain(r, r.Intn(20), 30)
		}
	}
	return l
}

// twoLogs returns two logs that have many of their pulses in common.
func twoLogs(r *rand.Rand, from int) (valve.Log, valve.Log) {
	common := randomTrain(r, from, 40)
	return logOf(r.Intn(256), similar(r, common)), logOf(r.Intn(256), similar(r, common))
}

// find returns the pulses of a train at a tick, and whether it has the tick.
func find(l []valve.Pulse, tick int) (int, bool) {
	for _, p := range l {
		if p.Tick == tick {
			return p.Pulses, true
		}
	}
	return 0, false
}

// inserted reports whether pulses insert a valve.
func inserted(pulses, valve int) bool {
	return strings.HasSuffix(fmt.Sprintf("%012b", pulses)[:12-valve], "1")
}

// badTrains returns trains with each error, most of them with later errors, too.
func badTrains() map[api.Errno][][]valve.Pulse {
	none := [2]int{-1, -1}
	l := map[api.Errno][][]valve.Pulse{
		api.ErrMany:  {longTrain(0, 257), make([]valve.Pulse, 257), slices.Repeat(at(none), 1000)},
		api.ErrOrder: {at([2]int{0, 0}, [2]int{0, 0}), at([2]int{2, 1}, [2]int{1, 1}), at([2]int{5, 1}, [2]int{6, 2}, [2]int{6, 3}, none), at([2]int{100000, 0}, [2]int{0, 0}, none)},
	}
	for _, n := range beyond(0, 100000) {
		l[api.ErrRange] = append(l[api.ErrRange], at([2]int{n, 1}), at([2]int{n, 5000}), at([2]int{5, 1}, [2]int{n, 1}, none), at([2]int{5, 1}, [2]int{n, 1}, [2]int{5, 1}))
	}
	for _, n := range beyond(0, 4095) {
		l[api.ErrRange] = append(l[api.ErrRange], at([2]int{5, n}), at([2]int{5, 1}, [2]int{4, n}), at([2]int{5, 1}, [2]int{6, n}, [2]int{6, 1}))
	}
	return l
}

// eachBadTrain calls a function with trains and with the error that they have.
func eachBadTrain(f func(what string, l []valve.Pulse, e api.Errno)) {
	for e, trains := range badTrains() {
		for _, l := range trains {
			f(fmt.Sprintf("the train %.200v", l), l, e)
		}
	}
}

// eachBadLog calls a function with logs and with the error that they have.
func eachBadLog(f func(what string, l valve.Log, e api.Errno)) {
	eachBadTrain(func(what string, l []valve.Pulse, e api.Errno) {
		f(what, logOf(0, l), e)
		f(what, logOf(255, l), e)
		f(what+" of no controller", logOf(256, l), api.ErrRange)
	})
	for _, n := range beyond(0, 255) {
		f(fmt.Sprint("the controller ", n), logOf(n, nil), api.ErrRange)
		f(fmt.Sprint("the controller ", n), logOf(n, a().Train), api.ErrRange)
	}
}

// eachBadPair calls a function with two logs and with the error that they have.
func eachBadPair(f func(what string, x, y valve.Log, e api.Errno)) {
	eachBadLog(func(what string, l valve.Log, e api.Errno) {
		f("first "+what, l, b(), e)
		f("first "+what, l, logOf(-1, nil), e)
		f("first "+what, l, logOf(0, longTrain(0, 257)), e)
		f("second "+what, a(), l, e)
		f("second "+what, valve.Log{}, l, e)
	})
}

// eachBadLogs calls a function with lists of logs and with the error that they have.
func eachBadLogs(f func(what string, l []valve.Log, e api.Errno)) {
	eachBadLog(func(what string, l valve.Log, e api.Errno) {
		f(what+" alone", []valve.Log{l}, e)
		f(what+" in front", []valve.Log{l, b(), c(), logOf(-1, nil)}, e)
		f(what+" behind the same controller", []valve.Log{b(), logOf(l.Controller&255, nil), l, l}, e)
	})
	f("the same controller", []valve.Log{a(), a()}, api.ErrTwice)
	f("the same controller", []valve.Log{a(), b(), c(), logOf(255, nil), logOf(0, b().Train)}, api.ErrTwice)
	f("the same controller before an error", []valve.Log{b(), b(), logOf(256, nil)}, api.ErrTwice)
	f("seven logs", []valve.Log{{}, {Controller: 1}, {Controller: 2}, {Controller: 3}, {Controller: 4}, {Controller: 5}, {Controller: 6}}, api.ErrMany)
	f("seven logs with errors", slices.Repeat([]valve.Log{{Controller: -1}}, 7), api.ErrMany)
	f("many logs", make([]valve.Log, 1000), api.ErrMany)
}
