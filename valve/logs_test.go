package valve_test

import (
	"fmt"
	"math/rand"
	"testing"

	"bipole/api"
	"bipole/valve"
)

// P7.1
func TestCheckLogs(t *testing.T) {
	eachBadLogs(func(what string, l []valve.Log, e api.Errno) {
		is(t, what, valve.CheckLogs(l), e)
	})
	six := []valve.Log{a(), b(), c(), logOf(255, longTrain(0, 256)), logOf(254, nil), logOf(3, a().Train)}
	for _, l := range [][]valve.Log{nil, {}, {a()}, six} {
		is(t, fmt.Sprint(l), valve.CheckLogs(l), api.OK)
	}
}

// P7.1: logs differ at a tick that both have.
func TestDiffer(t *testing.T) {
	eachBadPair(func(what string, x, y valve.Log, want api.Errno) {
		tick, differ, e := valve.Differ(x, y)
		is(t, what, tick, 0)
		is(t, what, differ, false)
		is(t, what, e, want)
	})
	for _, x := range []struct {
		a, b valve.Log
		tick int
		is   bool
	}{
		{a(), b(), 2, true}, {b(), a(), 2, true}, {b(), c(), 0, false}, {c(), b(), 0, false}, {a(), c(), 2, true}, {a(), a(), 0, false}, {a(), valve.Log{}, 0, false}, {valve.Log{}, a(), 0, false}, {valve.Log{}, valve.Log{}, 0, false},
		{logOf(7, train(0, 1)), logOf(7, train(0, 2)), 0, true}, {logOf(7, train(100000, 0)), logOf(0, train(100000, 2048)), 100000, true}, {logOf(7, train(5, 1, 1)), logOf(8, train(7, 2, 2)), 0, false}, {logOf(7, train(5, 1, 1, 1)), logOf(8, train(3, 9, 9, 1, 1, 2)), 7, true},
	} {
		what := fmt.Sprint(x.a, " and ", x.b)
		tick, differ, e := valve.Differ(x.a, x.b)
		is(t, what, tick, x.tick)
		is(t, what, differ, x.is)
		is(t, what, e, api.OK)
	}
}

// agree reports whether two logs have a tick and do not differ at it, by the
// definition.
func agree(x, y valve.Log, tick int) bool {
	p, has := find(x.Train, tick)
	q, too := find(y.Train, tick)
	return has && too && p == q
}

// changeOverOf returns the first tick of a change-over, by the definition.
func changeOverOf(x, y valve.Log, from, hold int) (int, api.Errno) {
	for tick := from; tick <= 100000 && tick < from+200; tick++ {
		n := 0
		for n < hold && agree(x, y, tick+n) {
			n++
		}
		if n == hold {
			return tick, api.OK
		}
	}
	return 0, api.ErrNone
}

// P7.1: what two logs have in common is that of the definition.
func TestPairsOfMany(t *testing.T) {
	r := rand.New(rand.NewSource(712))
	seen := map[string]int{}
	for range 3000 {
		start := []int{0, 99900}[r.Intn(2)]
		x, y := twoLogs(r, start)
		what := fmt.Sprint(x, " and ", y)
		tick, differ, e := valve.Differ(x, y)
		is(t, what, e, api.OK)
		want, wanted := 0, false
		for at := start + 100; at >= start; at-- {
			p, has := find(x.Train, at)
			q, too := find(y.Train, at)
			if has && too && p != q {
				want, wanted = at, true
			}
		}
		is(t, what, tick, want)
		is(t, what, differ, wanted)
		from, hold := max(start+between(r, -3, 30), 0), between(r, 1, []int{3, 16}[r.Intn(2)])
		what = fmt.Sprint(what, " from ", from, " with the hold ", hold)
		over, e := valve.ChangeOver(x, y, from, hold)
		want, none := changeOverOf(x, y, from, hold)
		is(t, what, over, want)
		is(t, what, e, none)
		seen[fmt.Sprint(differ, e)]++
	}
	if len(seen) != 4 || seen["true 0"] < 100 || seen["true 7"] < 100 {
		t.Errorf("the results are %v", seen)
	}
}

// notOver fails a test if there is a change-over, or another error.
func notOver(t *testing.T, what string, x, y valve.Log, from, hold int, want api.Errno) {
	t.Helper()
	what = fmt.Sprint(what, " from ", from, " with the hold ", hold)
	tick, e := valve.ChangeOver(x, y, from, hold)
	is(t, what, tick, 0)
	is(t, what, e, want)
}

// P7.1: the logs, the tick and the hold are asked for in this order.
func TestNoChangeOver(t *testing.T) {
	eachBadPair(func(what string, x, y valve.Log, e api.Errno) {
		notOver(t, what, x, y, 0, 1, e)
		notOver(t, what, x, y, -1, 0, e)
	})
	for _, n := range beyond(0, 100000) {
		notOver(t, "", a(), b(), n, 1, api.ErrRange)
	}
	for _, n := range beyond(1, 16) {
		notOver(t, "", a(), b(), 1, n, api.ErrRange)
		notOver(t, "", valve.Log{}, valve.Log{}, 100000, n, api.ErrRange)
	}
	for _, x := range [][2]int{{1, 3}, {1, 16}, {4, 2}, {5, 1}, {100000, 1}, {100000, 16}} {
		notOver(t, "A and B", a(), b(), x[0], x[1], api.ErrNone)
	}
	notOver(t, "nothing", valve.Log{}, valve.Log{}, 0, 1, api.ErrNone)
	notOver(t, "no common tick", a(), logOf(1, train(5, 3, 3)), 0, 1, api.ErrNone)
	notOver(t, "a gap", c(), c(), 0, 2, api.ErrNone)
	last := logOf(9, train(99998, 1, 1, 1))
	notOver(t, "ticks that nobody has", last, last, 99998, 4, api.ErrNone)
	notOver(t, "ticks that nobody has", last, last, 100000, 2, api.ErrNone)
}

// P7.1: a change-over has the whole hold behind it.
func TestChangeOver(t *testing.T) {
	long, last := logOf(3, longTrain(10, 200)), logOf(9, train(99998, 1, 1, 1))
	gap := logOf(4, append(longTrain(10, 15), longTrain(26, 17)...))
	for _, x := range []struct {
		a, b             valve.Log
		from, hold, tick int
	}{
		{a(), b(), 1, 2, 3}, {a(), b(), 1, 1, 1}, {a(), b(), 2, 1, 3}, {a(), b(), 0, 1, 1}, {a(), b(), 3, 2, 3}, {a(), b(), 4, 1, 4}, {b(), a(), 1, 2, 3}, {b(), b(), 1, 5, 1}, {b(), b(), 0, 4, 1}, {b(), b(), 2, 4, 2},
		{long, long, 0, 16, 10}, {long, long, 194, 16, 194}, {long, gap, 0, 15, 10}, {gap, long, 0, 16, 26}, {gap, long, 11, 15, 26}, {gap, long, 27, 16, 27}, {gap, long, 12, 13, 12},
		{last, last, 0, 3, 99998}, {last, last, 99999, 2, 99999}, {last, last, 100000, 1, 100000}, {c(), c(), 3, 1, 4},
	} {
		what := fmt.Sprint(x.a, " and ", x.b, " from ", x.from, " with the hold ", x.hold)
		tick, e := valve.ChangeOver(x.a, x.b, x.from, x.hold)
		is(t, what, tick, x.tick)
		is(t, what, e, api.OK)
	}
}

// P7.1: the train is that of the first log before the tick, and then that of the
// second one.
func TestSwitched(t *testing.T) {
	no := func(what string, x, y valve.Log, tick int, want api.Errno) {
		t.Helper()
		l, e := valve.Switched(x, y, tick)
		isList(t, what, l, nil)
		is(t, what, e, want)
	}
	eachBadPair(func(what string, x, y valve.Log, e api.Errno) {
		no(what, x, y, 1, e)
		no(what, x, y, -1, e)
	})
	for _, n := range beyond(0, 100000) {
		no(fmt.Sprint(n), a(), b(), n, api.ErrRange)
	}
	early, late := logOf(0, longTrain(0, 200)), logOf(1, longTrain(500, 200))
	no("many pulses", early, late, 300, api.ErrMany)
	no("257 pulses", early, late, 643, api.ErrMany)
	for _, x := range []struct {
		a, b valve.Log
		tick int
		want []valve.Pulse
	}{
		{a(), b(), 3, train(1, 3, 3, 5, 5, 4)}, {a(), b(), 0, b().Train}, {a(), b(), 1, b().Train}, {a(), b(), 2, train(1, 3, 1, 5, 5, 4)}, {a(), b(), 5, train(1, 3, 3, 5, 5, 4)}, {a(), b(), 6, a().Train}, {a(), b(), 100000, a().Train}, {a(), c(), 3, at([2]int{1, 3}, [2]int{2, 3}, [2]int{4, 5})}, {c(), a(), 3, at([2]int{2, 1}, [2]int{3, 5}, [2]int{4, 5})},
		{valve.Log{}, a(), 3, train(3, 5, 5)}, {a(), valve.Log{}, 3, train(1, 3, 3)}, {valve.Log{}, valve.Log{}, 3, nil}, {early, late, 644, append(longTrain(0, 200), longTrain(644, 56)...)}, {late, early, 300, nil}, {logOf(2, train(100000, 1)), logOf(2, train(100000, 2)), 100000, train(100000, 2)},
	} {
		what := fmt.Sprint(x.a, " and ", x.b, " at ", x.tick)
		l, e := valve.Switched(x.a, x.b, x.tick)
		isList(t, what, l, x.want)
		is(t, what, e, api.OK)
	}
}

// P7.1: a log that is behind by exactly the limit is not.
func TestBehind(t *testing.T) {
	no := func(what string, l []valve.Log, limit int, want api.Errno) {
		t.Helper()
		behind, e := valve.Behind(l, limit)
		isList(t, what, behind, nil)
		is(t, what, e, want)
	}
	eachBadLogs(func(what string, l []valve.Log, e api.Errno) {
		no(what, l, 1, e)
		no(what, l, -1, e)
	})
	for _, n := range beyond(0, 100000) {
		no(fmt.Sprint(n), []valve.Log{a(), b()}, n, api.ErrRange)
		no(fmt.Sprint(n), nil, n, api.ErrRange)
	}
	all, empty := []valve.Log{a(), b(), c()}, logOf(9, nil)
	widest := []valve.Log{empty, logOf(3, train(100000, 0)), logOf(4, train(0, 0)), logOf(5, train(99999, 0))}
	for _, x := range []struct {
		l     []valve.Log
		limit int
		want  []int
	}{
		{all, 0, []int{0, 2}}, {all, 1, nil}, {all, 100000, nil}, {nil, 0, nil}, {all[:1], 0, nil}, {[]valve.Log{a(), empty}, 4, []int{1}}, {[]valve.Log{a(), empty}, 5, nil}, {[]valve.Log{{}, empty}, 0, nil}, {[]valve.Log{empty}, 0, nil}, {[]valve.Log{empty, logOf(0, train(0, 0))}, 0, []int{0}}, {[]valve.Log{empty, logOf(0, train(0, 0))}, 1, nil},
		{widest, 0, []int{0, 2, 3}}, {widest, 1, []int{0, 2}}, {widest, 99999, []int{0, 2}}, {widest, 100000, []int{0}},
	} {
		what := fmt.Sprint(x.l, " by ", x.limit)
		behind, e := valve.Behind(x.l, x.limit)
		isList(t, what, behind, x.want)
		is(t, what, e, api.OK)
	}
}

// P7.1: ticks and valves are voted by more than half.
func TestVote(t *testing.T) {
	eachBadLogs(func(what string, l []valve.Log, want api.Errno) {
		vote, e := valve.Vote(l)
		isList(t, what, vote, nil)
		is(t, what, e, want)
	})
	all := []valve.Log{a(), b(), c()}
	for _, x := range []struct {
		l    []valve.Log
		want []valve.Pulse
	}{
		{all, train(1, 3, 1, 5, 5)}, {all[:2], train(1, 3, 1, 5, 5)}, {all[:1], a().Train}, {nil, nil}, {[]valve.Log{a(), c()}, at([2]int{2, 1}, [2]int{4, 5})}, {[]valve.Log{b(), {}}, nil}, {[]valve.Log{{}}, nil},
		{[]valve.Log{logOf(0, train(9, 2048)), logOf(1, train(9, 2049)), logOf(2, train(9, 1)), logOf(3, train(8, 1, 0)), logOf(4, train(8, 4095)), logOf(5, nil)}, train(9, 0)},
		{[]valve.Log{logOf(0, train(9, 2048)), logOf(1, train(9, 2049)), logOf(2, train(9, 2049)), logOf(3, train(8, 1)), logOf(4, train(8, 4095))}, train(9, 2049)},
		{[]valve.Log{logOf(0, train(100000, 3)), logOf(1, at([2]int{0, 1}, [2]int{100000, 6})), logOf(2, at([2]int{0, 1}))}, at([2]int{0, 1}, [2]int{100000, 2})},
	} {
		vote, e := valve.Vote(x.l)
		isList(t, fmt.Sprint(x.l), vote, x.want)
		is(t, fmt.Sprint(x.l), e, api.OK)
	}
}

// P7.1: a vote may have more pulses than a train.
func TestLongVote(t *testing.T) {
	l := []valve.Log{logOf(0, longTrain(0, 256)), logOf(1, append(longTrain(0, 128), longTrain(256, 128)...)), logOf(2, longTrain(128, 256))}
	vote, e := valve.Vote(l)
	isList(t, "a long vote", vote, longTrain(0, 384))
	is(t, "a long vote", e, api.OK)
}

// voteOf returns the vote of logs, by the definition.
func voteOf(l []valve.Log, most int) []valve.Pulse {
	var vote []valve.Pulse
	for tick := range most {
		have := 0
		var votes [12]int
		for _, x := range l {
			pulses, has := find(x.Train, tick)
			if !has {
				continue
			}
			have++
			for v := range 12 {
				if inserted(pulses, v) {
					votes[v]++
				}
			}
		}
		if have <= len(l)-have {
			continue
		}
		p := valve.Pulse{Tick: tick}
		for v, n := range votes {
			if n > have-n {
				p.Pulses += 1 << v
			}
		}
		vote = append(vote, p)
	}
	return vote
}

// behindOf returns the logs that are behind, by the definition.
func behindOf(l []valve.Log, limit int) []int {
	var behind []int
	for i, x := range l {
		last := -1
		for _, p := range x.Train {
			last = p.Tick
		}
		is := false
		for _, other := range l {
			for _, p := range other.Train {
				is = is || p.Tick > last+limit
			}
		}
		if is {
			behind = append(behind, i)
		}
	}
	return behind
}

// P7.1: votes and logs that are behind are those of the definition.
func TestLogsOfMany(t *testing.T) {
	r := rand.New(rand.NewSource(713))
	for range 2000 {
		l, limit := randomLogs(r), r.Intn(12)
		is(t, fmt.Sprint(l), valve.CheckLogs(l), api.OK)
		vote, e := valve.Vote(l)
		isList(t, fmt.Sprint(l), vote, voteOf(l, 150))
		is(t, fmt.Sprint(l), e, api.OK)
		behind, e := valve.Behind(l, limit)
		isList(t, fmt.Sprint(l, " by ", limit), behind, behindOf(l, limit))
		is(t, fmt.Sprint(l, " by ", limit), e, api.OK)
	}
}
