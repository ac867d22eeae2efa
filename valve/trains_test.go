package valve_test

import (
	"fmt"
	"math/rand"
	"testing"

	"bipole/api"
	"bipole/valve"
)

// P7.1
func TestCheckTrain(t *testing.T) {
	eachBadTrain(func(what string, l []valve.Pulse, e api.Errno) {
		is(t, what, valve.CheckTrain(l), e)
	})
	for _, l := range [][]valve.Pulse{nil, {}, a().Train, c().Train, at([2]int{0, 0}), at([2]int{0, 4095}, [2]int{100000, 4095}), longTrain(0, 256), longTrain(99745, 256)} {
		is(t, fmt.Sprint(l), valve.CheckTrain(l), api.OK)
	}
}

// noBumps fails a test if a train has bumps, or another error.
func noBumps(t *testing.T, what string, l []valve.Pulse, limit int, want api.Errno) {
	t.Helper()
	bumps, e := valve.Bumps(l, limit)
	isList(t, what, bumps, nil)
	is(t, what, e, want)
}

// P7.1: a bump has more changes than the limit, whatever both ticks are.
func TestBumps(t *testing.T) {
	eachBadTrain(func(what string, l []valve.Pulse, e api.Errno) {
		noBumps(t, what, l, 1, e)
		noBumps(t, what, l, -1, e)
	})
	for _, n := range beyond(0, 12) {
		noBumps(t, fmt.Sprint("the limit ", n), a().Train, n, api.ErrRange)
		noBumps(t, fmt.Sprint("the limit ", n), nil, n, api.ErrRange)
	}
	shown := train(1, 3, 3, 5, 5, 4)
	far := at([2]int{0, 4095}, [2]int{9, 4095}, [2]int{50000, 0}, [2]int{50001, 2048}, [2]int{100000, 2047})
	for _, x := range []struct {
		l     []valve.Pulse
		limit int
		want  []int
	}{
		{shown, 0, []int{3, 5}}, {shown, 1, []int{3}}, {shown, 2, nil}, {shown, 12, nil}, {nil, 0, nil}, {train(7, 4095), 0, nil}, {train(7, 5, 5, 5), 0, nil}, {train(0, 0, 1, 0, 1), 0, []int{1, 2, 3}},
		{far, 0, []int{50000, 50001, 100000}}, {far, 1, []int{50000, 100000}}, {far, 11, []int{50000, 100000}}, {far, 12, nil}, {train(4, 1, 2), 1, []int{5}}, {train(4, 1, 3), 1, nil},
	} {
		what := fmt.Sprint(x.l, " by ", x.limit)
		bumps, e := valve.Bumps(x.l, x.limit)
		isList(t, what, bumps, x.want)
		is(t, what, e, api.OK)
	}
}

// changesOf returns for each pulse but the first one the valves that are in another
// state than before, by the definition.
func changesOf(l []valve.Pulse) [][12]bool {
	var changes [][12]bool
	for i := 1; i < len(l); i++ {
		var changed [12]bool
		for v := range 12 {
			changed[v] = inserted(l[i].Pulses, v) != inserted(l[i-1].Pulses, v)
		}
		changes = append(changes, changed)
	}
	return changes
}

// P7.1, P7.3: bumps and switchings are those of the definition.
func TestChangesOfMany(t *testing.T) {
	r := rand.New(rand.NewSource(711))
	for range 1000 {
		l, limit := randomTrain(r, r.Intn(9), 50), r.Intn(13)
		var bumps []int
		var switchings [12]int
		for i, changed := range changesOf(l) {
			n := 0
			for v := range 12 {
				if changed[v] {
					n++
					switchings[v]++
				}
			}
			if n > limit {
				bumps = append(bumps, l[i+1].Tick)
			}
		}
		got, e := valve.Bumps(l, limit)
		isList(t, fmt.Sprint(l, " by ", limit), got, bumps)
		is(t, fmt.Sprint(l, " by ", limit), e, api.OK)
		all, e := valve.Switchings(l)
		is(t, fmt.Sprint(l), all, switchings)
		is(t, fmt.Sprint(l), e, api.OK)
	}
}

// P7.3
func TestSwitchings(t *testing.T) {
	eachBadTrain(func(what string, l []valve.Pulse, e api.Errno) {
		n, got := valve.Switchings(l)
		is(t, what, n, [12]int{})
		is(t, what, got, e)
	})
	var wild []int
	for i := range 256 {
		wild = append(wild, 4095*(i%2))
	}
	all := [12]int{255, 255, 255, 255, 255, 255, 255, 255, 255, 255, 255, 255}
	for _, x := range []struct {
		l    []valve.Pulse
		want [12]int
	}{
		{a().Train, [12]int{0, 1, 1}}, {c().Train, [12]int{0, 0, 1}}, {nil, [12]int{}}, {train(3, 4095), [12]int{}}, {train(3, 7, 7, 7), [12]int{}}, {train(1, 0, 4095, 0), [12]int{2, 2, 2, 2, 2, 2, 2, 2, 2, 2, 2, 2}}, {train(0, wild...), all},
		{at([2]int{5, 2048}, [2]int{70000, 1}, [2]int{70002, 2049}, [2]int{100000, 1}), [12]int{0: 1, 11: 3}},
	} {
		n, e := valve.Switchings(x.l)
		is(t, fmt.Sprint(x.l), n, x.want)
		is(t, fmt.Sprint(x.l), e, api.OK)
	}
}

// P7.3: bypassed valves are inserted in no pulse.
func TestBypassed(t *testing.T) {
	no := func(what string, l []valve.Pulse, valves int, want api.Errno) {
		t.Helper()
		got, e := valve.Bypassed(l, valves)
		isList(t, what, got, nil)
		is(t, what, e, want)
	}
	eachBadTrain(func(what string, l []valve.Pulse, e api.Errno) {
		no(what, l, 1, e)
		no(what, l, -1, e)
	})
	for _, n := range beyond(0, 4095) {
		no(fmt.Sprint("the set ", n), a().Train, n, api.ErrRange)
		no(fmt.Sprint("the set ", n), nil, n, api.ErrRange)
	}
	for valves, want := range map[int][]int{1: {2, 2, 4, 4}, 0: {3, 3, 5, 5}, 6: {1, 1, 1, 1}, 4088: {3, 3, 5, 5}, 4095: {0, 0, 0, 0}} {
		got, e := valve.Bypassed(a().Train, valves)
		isList(t, fmt.Sprint(valves), got, train(1, want...))
		is(t, fmt.Sprint(valves), e, api.OK)
	}
	got, e := valve.Bypassed(at([2]int{0, 4095}, [2]int{100000, 2048}), 2049)
	isList(t, "the first and the last valve", got, at([2]int{0, 2046}, [2]int{100000, 0}))
	is(t, "the first and the last valve", e, api.OK)
	got, e = valve.Bypassed(nil, 4095)
	isList(t, "no train", got, nil)
	is(t, "no train", e, api.OK)
}

// notSubstituted fails a test if a valve is substituted, or there is another error.
func notSubstituted(t *testing.T, what string, l []valve.Pulse, failed, spare int, want api.Errno) {
	t.Helper()
	what = fmt.Sprint(what, ": ", spare, " for ", failed)
	got, e := valve.Substituted(l, failed, spare)
	isList(t, what, got, nil)
	is(t, what, e, want)
}

// P7.3: the train, the failed valve and the spare one are asked for in this order.
func TestBadSubstituted(t *testing.T) {
	eachBadTrain(func(what string, l []valve.Pulse, e api.Errno) {
		notSubstituted(t, what, l, 0, 1, e)
		notSubstituted(t, what, l, -1, -1, e)
		notSubstituted(t, what, l, 0, 0, e)
	})
	for _, n := range beyond(0, 11) {
		notSubstituted(t, "", a().Train, n, 3, api.ErrRange)
		notSubstituted(t, "", a().Train, 3, n, api.ErrRange)
		notSubstituted(t, "", a().Train, n, 0, api.ErrRange)
		notSubstituted(t, "", nil, n, n, api.ErrRange)
	}
	for v := range 12 {
		notSubstituted(t, "", a().Train, v, v, api.ErrTwice)
		notSubstituted(t, "", nil, v, v, api.ErrTwice)
	}
	for spare := range 3 {
		notSubstituted(t, "", a().Train, 11, spare, api.ErrConflict)
		notSubstituted(t, "", a().Train, (spare+1)%3, spare, api.ErrConflict)
	}
	notSubstituted(t, "once", at([2]int{1, 0}, [2]int{2, 2048}, [2]int{3, 0}), 5, 11, api.ErrConflict)
	notSubstituted(t, "at the end", train(0, 1, 1, 3), 0, 1, api.ErrConflict)
}

// P7.3: the spare valve is inserted where the failed one was.
func TestSubstituted(t *testing.T) {
	for _, x := range []struct {
		failed, spare int
		want          []int
	}{{2, 3, []int{3, 3, 9, 9}}, {7, 8, []int{3, 3, 5, 5}}, {0, 11, []int{2050, 2050, 2052, 2052}}, {1, 3, []int{9, 9, 5, 5}}, {11, 3, []int{3, 3, 5, 5}}} {
		got, e := valve.Substituted(a().Train, x.failed, x.spare)
		isList(t, fmt.Sprint(x.spare, " for ", x.failed), got, train(1, x.want...))
		is(t, fmt.Sprint(x.spare, " for ", x.failed), e, api.OK)
	}
	got, e := valve.Substituted(at([2]int{0, 2048}, [2]int{100000, 2047}), 11, 0)
	isList(t, "a spare that is inserted", got, nil)
	is(t, "a spare that is inserted", e, api.ErrConflict)
	got, e = valve.Substituted(at([2]int{0, 2048}, [2]int{100000, 2046}), 11, 0)
	isList(t, "the first valve for the last one", got, at([2]int{0, 1}, [2]int{100000, 2046}))
	is(t, "the first valve for the last one", e, api.OK)
	got, e = valve.Substituted(nil, 0, 1)
	isList(t, "no train", got, nil)
	is(t, "no train", e, api.OK)
}
