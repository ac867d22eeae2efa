package valve_test

import (
	"math"
	"math/rand"
	"slices"
	"testing"

	"bipole/api"
	"bipole/phasor"
	"bipole/valve"
)

// anyInt returns an integer, often one at the end of a range.
func anyInt(r *rand.Rand) int {
	ends := []int{0, 1, 6, 8, 11, 16, 100, 255, 1024, 4095, 65536, 100000, 1000000, 1 << 40, math.MaxInt32, math.MaxInt}
	n := ends[r.Intn(len(ends))] + r.Intn(3) - 1
	if r.Intn(4) == 0 {
		n = -n - 1
	}
	return n
}

// anyList returns a list of up to 300 elements.
func anyList[T any](r *rand.Rand, element func(*rand.Rand) T) []T {
	l := make([]T, r.Intn([]int{2, 5, 8, 300}[r.Intn(4)]))
	for i := range l {
		l[i] = element(r)
	}
	return l
}

func anyPulse(r *rand.Rand) valve.Pulse { return valve.Pulse{Tick: anyInt(r), Pulses: anyInt(r)} }

func anyAck(r *rand.Rand) valve.Ack { return valve.Ack{Valve: anyInt(r), Tick: anyInt(r)} }

func anyByte(r *rand.Rand) byte { return "log pulse 019-\n"[r.Intn(15)] }

func anyName(r *rand.Rand) string { return []string{"a", "b", "m1", "1", ""}[r.Intn(5)] }

func anyModule(r *rand.Rand) valve.Module {
	return valve.Module{Name: anyName(r), From: anyInt(r), By: anyInt(r), Hours: anyInt(r)}
}

func anyOutage(r *rand.Rand) valve.Outage {
	return valve.Outage{Tick: anyInt(r), Hours: anyInt(r), Cost: anyInt(r)}
}

func anyDelivery(r *rand.Rand) valve.Delivery {
	return valve.Delivery{Tick: anyInt(r), Count: anyInt(r)}
}

func anyTelegram(r *rand.Rand) phasor.Telegram {
	return phasor.Telegram{Source: anyInt(r), Counter: anyInt(r), Values: [4]int{anyInt(r), anyInt(r), 0, 0}}
}

// anyTrain returns a train, or pulses from anywhere.
func anyTrain(r *rand.Rand) []valve.Pulse {
	if r.Intn(3) == 0 {
		return anyList(r, anyPulse)
	}
	return randomTrain(r, r.Intn(100000), []int{5, 300}[r.Intn(2)])
}

// anyLog returns a log, or one with one part from anywhere.
func anyLog(r *rand.Rand) valve.Log {
	l := logOf(r.Intn(256), anyTrain(r))
	if r.Intn(5) == 0 {
		l.Controller = anyInt(r)
	}
	return l
}

// anyTask returns modules and outages, some of them from anywhere.
func anyTask(r *rand.Rand) ([]valve.Module, []valve.Outage) {
	m, o := randomTask(r)
	if r.Intn(4) == 0 {
		m = anyList(r, anyModule)
	}
	if r.Intn(4) == 0 {
		o = anyList(r, anyOutage)
	}
	return m, o
}

// P1: every function returns, whatever its arguments are.
func TestAnyLogs(t *testing.T) {
	r := rand.New(rand.NewSource(71))
	for range 10000 {
		x, y, l := anyLog(r), anyLog(r), anyList(r, anyLog)
		valve.CheckTrain(x.Train)
		valve.CheckLogs(l)
		valve.Differ(x, y)
		valve.ChangeOver(x, y, anyInt(r), anyInt(r))
		valve.Switched(x, y, anyInt(r))
		valve.Bumps(x.Train, anyInt(r))
		valve.Behind(l, anyInt(r))
		valve.Vote(l)
		valve.Telegrams(x)
		valve.Received(anyList(r, anyTelegram), anyInt(r), anyInt(r))
		valve.Print(x)
	}
}

// P1: every function returns, whatever its arguments are.
func TestAnyLives(t *testing.T) {
	r := rand.New(rand.NewSource(72))
	for range 10000 {
		l := anyTrain(r)
		var weights [12]int
		var wear [12]float32
		for v := range 12 {
			weights[v] = []int{r.Intn(1025), anyInt(r)}[r.Intn(20)/19]
			wear[v] = []float32{float32(r.Intn(1000)), math.Float32frombits(r.Uint32())}[r.Intn(20)/19]
		}
		valve.Missing(anyList(r, anyAck), anyInt(r), anyInt(r))
		valve.Switchings(l)
		valve.Wear(l, weights)
		valve.Worn(wear, math.Float32frombits(r.Uint32()))
		valve.Bypassed(l, anyInt(r))
		valve.Substituted(l, anyInt(r), anyInt(r))
	}
}

// P1: every function returns, whatever its arguments are.
func TestAnyTasks(t *testing.T) {
	r := rand.New(rand.NewSource(73))
	for range 10000 {
		m, o := anyTask(r)
		valve.CheckModules(m)
		valve.CheckOutages(o)
		valve.CheckPlan(m, o, anyList(r, anyInt))
		plan, _, e := valve.Plan(m, o)
		valve.Prices(m, o)
		valve.CheckPrices(m, o, anyList(r, anyInt))
		valve.Spares(m, o, anyList(r, anyInt), nil)
		if e == api.OK {
			valve.Spares(m, o, plan, anyList(r, anyDelivery))
		}
	}
}

// P1: every function returns, whatever its arguments are.
func TestAnyTexts(t *testing.T) {
	r := rand.New(rand.NewSource(74))
	for range 5000 {
		s := anyList(r, func(r *rand.Rand) byte { return byte(r.Intn(256)) })
		valve.Parse(string(s))
		valve.Parse("log " + string(s))
		valve.Parse("log 1\npulse 1" + string(anyList(r, anyByte)))
		bad := []byte(text)
		bad[r.Intn(len(bad))] = anyByte(r)
		valve.Parse(string(bad))
		valve.Parse(string(bad[:r.Intn(len(bad))]))
	}
}

// P7.1, P7.2: results share no memory with arguments or with earlier results, and
// arguments are not changed.
func TestMemoryOfLogs(t *testing.T) {
	logs := []valve.Log{a(), b(), c()}
	use := func(what string, f func() []valve.Pulse) {
		t.Helper()
		first := f()
		want := slices.Clone(first)
		clear(first[:cap(first)])
		for i, l := range []valve.Log{a(), b(), c()} {
			isLog(t, what, logs[i], l)
		}
		isList(t, what, f(), want)
	}
	pulses := func(l []valve.Pulse, _ api.Errno) []valve.Pulse { return l }
	for _, tick := range []int{0, 3, 100000} {
		use("a train that is switched", func() []valve.Pulse { return pulses(valve.Switched(logs[0], logs[1], tick)) })
	}
	use("a vote", func() []valve.Pulse { return pulses(valve.Vote(logs)) })
	use("a vote of one", func() []valve.Pulse { return pulses(valve.Vote(logs[:1])) })
	use("a bypass of nothing", func() []valve.Pulse { return pulses(valve.Bypassed(logs[0].Train, 0)) })
	use("a bypass", func() []valve.Pulse { return pulses(valve.Bypassed(logs[0].Train, 1)) })
	use("a substitute of nothing", func() []valve.Pulse { return pulses(valve.Substituted(logs[0].Train, 7, 8)) })
	use("a substitute", func() []valve.Pulse { return pulses(valve.Substituted(logs[0].Train, 2, 3)) })
	use("a log of a text", func() []valve.Pulse {
		l, _, _ := valve.Parse(text)
		return l.Train
	})
	telegrams, _ := valve.Telegrams(logs[0])
	sent := slices.Clone(telegrams)
	use("a log of telegrams", func() []valve.Pulse {
		l, _ := valve.Received(telegrams, 0, 0)
		return l.Train
	})
	isList(t, "telegrams that were received", telegrams, sent)
	clear(telegrams)
	telegrams, _ = valve.Telegrams(logs[0])
	isList(t, "telegrams", telegrams, sent)
}

// P7.3 to P7.5: results share no memory with arguments or with earlier results, and
// arguments are not changed.
func TestMemoryOfTasks(t *testing.T) {
	m, o, plan, acknowledged := modules(), outages(4), []int{0, 1}, acks()
	l := deliveries([2]int{15, 1}, [2]int{8, 1}, [2]int{0, 1})
	use := func(what string, f func() []int) {
		t.Helper()
		first := f()
		want := slices.Clone(first)
		clear(first[:cap(first)])
		isList(t, what, m, modules())
		isList(t, what, o, outages(4))
		isList(t, what, plan, []int{0, 1})
		isList(t, what, acknowledged, acks())
		isList(t, what, l, deliveries([2]int{15, 1}, [2]int{8, 1}, [2]int{0, 1}))
		isList(t, what, f(), want)
	}
	use("bumps", func() []int {
		bumps, _ := valve.Bumps(a().Train, 0)
		return bumps
	})
	use("links", func() []int {
		missing, _ := valve.Missing(acknowledged, 8, 3)
		return missing
	})
	use("the best plan", func() []int {
		best, _, _ := valve.Plan(m, o)
		return best
	})
	use("prices", func() []int {
		prices, _ := valve.Prices(m, o)
		return prices
	})
	use("checks", func() []int {
		cost, _ := valve.CheckPlan(m, o, plan)
		sum, _ := valve.CheckPrices(m, o, plan)
		n, _ := valve.Spares(m, o, plan, l)
		return []int{cost, sum, n}
	})
}
