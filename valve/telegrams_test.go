package valve_test

import (
	"fmt"
	"math/rand"
	"slices"
	"testing"

	"bipole/api"
	"bipole/phasor"
	"bipole/valve"
)

// sent returns a telegram with pulses.
func sent(source, counter, pulses int) phasor.Telegram {
	return phasor.Telegram{Source: source, Counter: counter, Values: [4]int{pulses}}
}

// P7.2: the counter is the tick modulo 65536.
func TestTelegrams(t *testing.T) {
	eachBadLog(func(what string, l valve.Log, want api.Errno) {
		telegrams, e := valve.Telegrams(l)
		isList(t, what, telegrams, nil)
		is(t, what, e, want)
	})
	for _, x := range []struct {
		l    valve.Log
		want []phasor.Telegram
	}{
		{a(), []phasor.Telegram{sent(0, 1, 3), sent(0, 2, 3), sent(0, 3, 5), sent(0, 4, 5)}}, {b(), []phasor.Telegram{sent(1, 1, 3), sent(1, 2, 1), sent(1, 3, 5), sent(1, 4, 5), sent(1, 5, 4)}}, {valve.Log{}, nil}, {logOf(255, nil), nil},
		{logOf(255, at([2]int{0, 4095}, [2]int{65535, 0}, [2]int{65536, 1}, [2]int{65537, 2048}, [2]int{100000, 7})), []phasor.Telegram{sent(255, 0, 4095), sent(255, 65535, 0), sent(255, 0, 1), sent(255, 1, 2048), sent(255, 34464, 7)}},
	} {
		telegrams, e := valve.Telegrams(x.l)
		isList(t, fmt.Sprint(x.l), telegrams, x.want)
		is(t, fmt.Sprint(x.l), e, api.OK)
	}
}

// notReceived fails a test if there is a log of telegrams, or another error.
func notReceived(t *testing.T, what string, l []phasor.Telegram, source, start int, want api.Errno) {
	t.Helper()
	got, e := valve.Received(l, source, start)
	isLog(t, what, got, valve.Log{})
	is(t, what, e, want)
}

// P7.2: telegrams, the source and the start are asked for in this order.
func TestBadReceived(t *testing.T) {
	no := func(what string, l []phasor.Telegram, want api.Errno) {
		t.Helper()
		notReceived(t, what, l, 0, 0, want)
		notReceived(t, what, l, -1, -1, want)
		notReceived(t, what, l, 9, 100000, want)
	}
	no("1025 telegrams", make([]phasor.Telegram, 1025), api.ErrMany)
	no("telegrams with errors", slices.Repeat([]phasor.Telegram{sent(-1, 0, 0)}, 2000), api.ErrMany)
	for _, n := range beyond(0, 255) {
		no(fmt.Sprint("the source ", n), []phasor.Telegram{sent(0, 0, 0), sent(n, 0, 0)}, api.ErrRange)
		notReceived(t, fmt.Sprint("of the source ", n), nil, n, 0, api.ErrRange)
		notReceived(t, fmt.Sprint("of the source ", n), []phasor.Telegram{sent(0, 0, -1)}, n, -1, api.ErrRange)
	}
	for _, n := range beyond(0, 65535) {
		no(fmt.Sprint("the counter ", n), []phasor.Telegram{sent(0, 0, -1), sent(3, n, 0)}, api.ErrRange)
	}
	for _, n := range beyond(-32768, 32767) {
		for i := range 4 {
			x := sent(3, 1, 1)
			x.Values[i] = n
			no(fmt.Sprint("the value ", n), []phasor.Telegram{sent(0, 0, 4096), x}, api.ErrRange)
		}
	}
	for _, n := range beyond(0, 100000) {
		notReceived(t, fmt.Sprint("the start ", n), nil, 0, n, api.ErrRange)
		notReceived(t, fmt.Sprint("the start ", n), []phasor.Telegram{sent(0, 0, -1)}, 0, n, api.ErrRange)
	}
}

// P7.2: the first telegram of the source that is wrong decides.
func TestReceivedOfNoPulses(t *testing.T) {
	wrong := []phasor.Telegram{sent(7, 5, 4096), sent(7, 5, -1), sent(7, 5, 32767), sent(7, 5, -32768)}
	for i := 1; i < 4; i++ {
		for _, n := range []int{1, -1, 32767} {
			x := sent(7, 5, 0)
			x.Values[i] = n
			wrong = append(wrong, x)
		}
	}
	for _, x := range wrong {
		what := fmt.Sprint(x)
		notReceived(t, what, []phasor.Telegram{x}, 7, 0, api.ErrForm)
		notReceived(t, what, []phasor.Telegram{x}, 7, 100000, api.ErrForm)
		notReceived(t, what, []phasor.Telegram{sent(6, 9, 1), sent(7, 9, 1), x, x}, 7, 9, api.ErrForm)
		notReceived(t, what, []phasor.Telegram{sent(7, 40000, 1), x}, 7, 65536, api.ErrLarge)
		notReceived(t, what, append(slices.Repeat([]phasor.Telegram{sent(6, 1, 1)}, 300), x), 7, 0, api.ErrForm)
		got, e := valve.Received([]phasor.Telegram{x, sent(8, 1, 2), x}, 8, 0)
		isLog(t, what, got, logOf(8, train(1, 2)))
		is(t, what, e, api.OK)
	}
	for _, x := range []struct {
		l     []phasor.Telegram
		start int
	}{
		{[]phasor.Telegram{sent(7, 34465, 1)}, 65536}, {[]phasor.Telegram{sent(7, 34463, 1)}, 100000}, {[]phasor.Telegram{sent(7, 65535, 1)}, 65536}, {[]phasor.Telegram{sent(7, 34465, 1), sent(7, 34465, 1)}, 0}, {[]phasor.Telegram{sent(7, 0, 1), sent(7, 0, 1), sent(7, 0, 1)}, 0}, {[]phasor.Telegram{sent(7, 34464, 1), sent(7, 34464, 1), sent(7, 34465, 1), sent(7, 5, -1)}, 0},
	} {
		notReceived(t, fmt.Sprint(x), x.l, 7, x.start, api.ErrLarge)
	}
}

// P7.2: a log has no more pulses than a train, which is asked for last.
func TestReceivedOfMany(t *testing.T) {
	var many []phasor.Telegram
	for i := range 1024 {
		many = append(many, sent(i%4, i/4, 1))
	}
	for source := range 4 {
		got, e := valve.Received(many, source, 0)
		isLog(t, "256 telegrams", got, logOf(source, train(0, slices.Repeat([]int{1}, 256)...)))
		is(t, "256 telegrams", e, api.OK)
	}
	many[0].Source = 1
	notReceived(t, "257 telegrams, one of them 65536 ticks before the next", many, 1, 0, api.ErrMany)
	for i := range many {
		many[i] = sent(5, i, 1)
	}
	notReceived(t, "257 telegrams", many[:257], 5, 0, api.ErrMany)
	notReceived(t, "1024 telegrams", many, 5, 0, api.ErrMany)
	many[1023].Values[2] = 1
	notReceived(t, "1024 telegrams, the last one wrong", many, 5, 0, api.ErrForm)
	many[1023] = sent(5, 5, 1)
	notReceived(t, "1024 telegrams, the last one late", many, 5, 65536, api.ErrLarge)
}

// P7.2: each tick is the least one that has the counter.
func TestReceived(t *testing.T) {
	for _, x := range []struct {
		l             []phasor.Telegram
		source, start int
		want          []valve.Pulse
	}{
		{[]phasor.Telegram{sent(0, 65535, 0), sent(3, 7, 1), sent(0, 1, 2)}, 0, 0, at([2]int{65535, 0}, [2]int{65537, 2})}, {[]phasor.Telegram{sent(0, 5, 1), sent(0, 5, 2)}, 0, 5, at([2]int{5, 1}, [2]int{65541, 2})}, {[]phasor.Telegram{sent(0, 5, 1)}, 0, 6, at([2]int{65541, 1})}, {[]phasor.Telegram{sent(0, 5, 1)}, 0, 65541, at([2]int{65541, 1})}, {[]phasor.Telegram{sent(0, 5, 1)}, 4, 6, nil}, {nil, 255, 100000, nil},
		{[]phasor.Telegram{sent(255, 34464, 4095)}, 255, 100000, at([2]int{100000, 4095})}, {[]phasor.Telegram{sent(255, 0, 1), sent(255, 65535, 2), sent(255, 0, 3), sent(255, 34464, 4)}, 255, 0, at([2]int{0, 1}, [2]int{65535, 2}, [2]int{65536, 3}, [2]int{100000, 4})}, {[]phasor.Telegram{sent(1, 9, 1), sent(1, 8, 2)}, 1, 0, at([2]int{9, 1}, [2]int{65544, 2})},
	} {
		what := fmt.Sprint(x)
		got, e := valve.Received(x.l, x.source, x.start)
		isLog(t, what, got, logOf(x.source, x.want))
		is(t, what, e, api.OK)
	}
}

// receivedOf returns the train of telegrams, by the definition, and whether all of
// its ticks are ticks.
func receivedOf(l []phasor.Telegram, source, start int) ([]valve.Pulse, bool) {
	var result []valve.Pulse
	tick := start
	for _, x := range l {
		if x.Source != source {
			continue
		}
		for tick%65536 != x.Counter {
			tick++
		}
		if tick > 100000 {
			return nil, false
		}
		result = append(result, valve.Pulse{Tick: tick, Pulses: x.Values[0]})
		tick++
	}
	return result, true
}

// P7.2: logs of telegrams are those of the definition.
func TestTelegramsOfMany(t *testing.T) {
	r := rand.New(rand.NewSource(721))
	late := 0
	for range 300 {
		var l []phasor.Telegram
		counter := r.Intn(65536)
		for range r.Intn(20) {
			l = append(l, sent(r.Intn(3), counter, r.Intn(4096)))
			counter = (counter + r.Intn([]int{3, 3000, 30000}[r.Intn(3)])) % 65536
		}
		start := r.Intn(100001)
		what := fmt.Sprint(l, " from ", start)
		want, ok := receivedOf(l, 1, start)
		if !ok {
			late++
			notReceived(t, what, l, 1, start, api.ErrLarge)
			continue
		}
		got, e := valve.Received(l, 1, start)
		isLog(t, what, got, logOf(1, want))
		is(t, what, e, api.OK)
	}
	if late < 50 || late > 250 {
		t.Errorf("%d of 300 are late", late)
	}
}
