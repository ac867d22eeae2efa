package valve_test

import (
	"fmt"
	"math"
	"math/rand"
	"slices"
	"testing"

	"bipole/api"
	"bipole/valve"
)

// acks returns the acknowledgements of the chapter's example.
func acks() []valve.Ack {
	l := []valve.Ack{{Valve: 0, Tick: 1}, {Valve: 0, Tick: 4}}
	for v := 1; v < 12; v++ {
		if v != 2 {
			l = append(l, valve.Ack{Valve: v, Tick: 5})
		}
	}
	return l
}

// notMissing fails a test if links are missing, or there is another error.
func notMissing(t *testing.T, what string, l []valve.Ack, tick, limit int, want api.Errno) {
	t.Helper()
	missing, e := valve.Missing(l, tick, limit)
	isList(t, what, missing, nil)
	is(t, what, e, want)
}

// P7.3: acknowledgements, the tick and the limit are asked for in this order.
func TestBadMissing(t *testing.T) {
	no := func(what string, l []valve.Ack, want api.Errno) {
		t.Helper()
		notMissing(t, what, l, 5, 5, want)
		notMissing(t, what, l, -1, -1, want)
	}
	no("257 acknowledgements", make([]valve.Ack, 257), api.ErrMany)
	no("acknowledgements with errors", slices.Repeat([]valve.Ack{{Valve: -1}}, 1000), api.ErrMany)
	for _, n := range beyond(0, 11) {
		no(fmt.Sprint("the valve ", n), []valve.Ack{{Valve: n, Tick: 5}}, api.ErrRange)
		no(fmt.Sprint("the valve ", n), []valve.Ack{{}, {Valve: n, Tick: -1}}, api.ErrRange)
	}
	for _, n := range beyond(0, 100000) {
		no(fmt.Sprint("the tick ", n), []valve.Ack{{Valve: 1, Tick: n}}, api.ErrRange)
		no(fmt.Sprint("the tick ", n), append(acks(), valve.Ack{Tick: n}), api.ErrRange)
		notMissing(t, fmt.Sprint("at ", n), acks(), n, 0, api.ErrRange)
		notMissing(t, fmt.Sprint("by ", n), acks(), 0, n, api.ErrRange)
		notMissing(t, fmt.Sprint("by ", n), nil, n, n, api.ErrRange)
	}
}

// all is all valves.
var all = []int{0, 1, 2, 3, 4, 5, 6, 7, 8, 9, 10, 11}

// P7.3: an acknowledgement counts from the tick less the limit to the tick.
func TestMissing(t *testing.T) {
	ends := []valve.Ack{{Valve: 11, Tick: 100000}, {Valve: 10, Tick: 0}, {Valve: 11, Tick: 99990}, {Valve: 3, Tick: 50000}}
	for _, x := range []struct {
		l           []valve.Ack
		tick, limit int
		want        []int
	}{
		{acks(), 8, 3, []int{0, 2}}, {acks(), 8, 4, []int{2}}, {acks(), 8, 2, all}, {acks(), 4, 9, all[1:]}, {acks(), 4, 0, all[1:]}, {acks(), 3, 1, all}, {acks(), 3, 2, all[1:]}, {acks(), 5, 0, []int{0, 2}}, {acks(), 0, 100000, all}, {acks(), 100000, 100000, []int{2}}, {acks(), 100000, 99995, []int{0, 2}}, {acks(), 100000, 99994, all},
		{nil, 5, 5, all}, {make([]valve.Ack, 256), 0, 0, all[1:]}, {ends, 100000, 0, all[:11]}, {ends, 99999, 9, all[:11]}, {ends, 99998, 7, all}, {ends, 100000, 100000, []int{0, 1, 2, 4, 5, 6, 7, 8, 9}}, {ends, 0, 0, []int{0, 1, 2, 3, 4, 5, 6, 7, 8, 9, 11}},
	} {
		what := fmt.Sprint(x.l, " at ", x.tick, " by ", x.limit)
		missing, e := valve.Missing(x.l, x.tick, x.limit)
		isList(t, what, missing, x.want)
		is(t, what, e, api.OK)
	}
}

// P7.3: missing links are those of the definition.
func TestMissingOfMany(t *testing.T) {
	r := rand.New(rand.NewSource(731))
	for range 2000 {
		l := make([]valve.Ack, r.Intn(40))
		for i := range l {
			l[i] = valve.Ack{Valve: r.Intn(12), Tick: r.Intn(20)}
		}
		tick, limit := r.Intn(25), r.Intn(25)
		var want []int
		for v := range 12 {
			heard := false
			for at := tick - limit; at <= tick; at++ {
				heard = heard || slices.Contains(l, valve.Ack{Valve: v, Tick: at})
			}
			if !heard {
				want = append(want, v)
			}
		}
		missing, e := valve.Missing(l, tick, limit)
		isList(t, fmt.Sprint(l, " at ", tick, " by ", limit), missing, want)
		is(t, fmt.Sprint(l, " at ", tick, " by ", limit), e, api.OK)
	}
}

// single returns numbers of valves that are 0 but for one.
func single[T any](v int, x T) [12]T {
	var l [12]T
	return with(l, v, x)
}

// with returns numbers of valves with another one.
func with[T any](l [12]T, v int, x T) [12]T {
	l[v] = x
	return l
}

// wild returns a train of so many pulses that all switch valves.
func wild(pulses, valves int) []valve.Pulse {
	l := longTrain(0, pulses)
	for i := range l {
		l[i].Pulses = valves * (i % 2)
	}
	return l
}

// P7.3: the train and the weights are asked for in this order, and the wear last.
func TestBadWear(t *testing.T) {
	no := func(what string, l []valve.Pulse, weights [12]int, want api.Errno) {
		t.Helper()
		wear, e := valve.Wear(l, weights)
		is(t, what, wear, [12]float32{})
		is(t, what, e, want)
	}
	eachBadTrain(func(what string, l []valve.Pulse, e api.Errno) {
		no(what, l, [12]int{1}, e)
		no(what, l, [12]int{-1}, e)
	})
	for v := range 12 {
		for _, n := range beyond(0, 1024) {
			no(fmt.Sprint("the weight ", n), a().Train, single(v, n), api.ErrRange)
			no(fmt.Sprint("the weight ", n), nil, single(v, n), api.ErrRange)
			no(fmt.Sprint("the weight ", n), wild(256, 4095), with(single((v+1)%12, 1024), v, n), api.ErrRange)
		}
		no("a wear above 1024", wild(18, 1<<v), single(v, 1024), api.ErrLarge)
		no("a wear above 1024", wild(256, 4095), single(v, 65), api.ErrLarge)
		no("the greatest wear", wild(256, 4095), single(v, 1024), api.ErrLarge)
	}
}

// P7.3: the wear is the weight times the switchings, in sixteenths.
func TestWear(t *testing.T) {
	for _, x := range []struct {
		l       []valve.Pulse
		weights [12]int
		want    [12]float32
	}{
		{a().Train, [12]int{8, 8, 8}, [12]float32{0, 0.5, 0.5}}, {a().Train, [12]int{8, 8, 9}, [12]float32{0, 0.5, 0.5625}}, {a().Train, [12]int{1024, 1, 1024, 1024}, [12]float32{0, 0.0625, 64}}, {a().Train, [12]int{}, [12]float32{}}, {nil, [12]int{1, 2, 3}, [12]float32{}},
		{wild(17, 1), [12]int{1024}, [12]float32{1024}}, {wild(17, 2048), [12]int{11: 1024}, [12]float32{11: 1024}}, {wild(256, 4095), [12]int{64, 63, 1}, [12]float32{1020, 255 * 63. / 16, 255. / 16}}, {wild(18, 1), [12]int{963, 1024}, [12]float32{17 * 963. / 16}},
	} {
		wear, e := valve.Wear(x.l, x.weights)
		is(t, fmt.Sprint(x.l, " by ", x.weights), wear, x.want)
		is(t, fmt.Sprint(x.l, " by ", x.weights), e, api.OK)
	}
}

// P7.3: sixteen times the wear is the weight times the switchings.
func TestWearOfMany(t *testing.T) {
	r := rand.New(rand.NewSource(732))
	seen := map[api.Errno]int{}
	for range 2000 {
		l := randomTrain(r, 0, 100)
		var weights [12]int
		for v := range 12 {
			weights[v] = r.Intn([]int{100, 400, 1025}[r.Intn(3)])
		}
		var want [12]float32
		wanted := api.OK
		n, _ := valve.Switchings(l)
		for v := range 12 {
			want[v] = float32(n[v]*weights[v]) / 16
			if n[v]*weights[v] > 16384 {
				wanted = api.ErrLarge
			}
		}
		if wanted != api.OK {
			want = [12]float32{}
		}
		seen[wanted]++
		wear, e := valve.Wear(l, weights)
		is(t, fmt.Sprint(l, " by ", weights), wear, want)
		is(t, fmt.Sprint(l, " by ", weights), e, wanted)
	}
	if seen[api.OK] < 200 || seen[api.ErrLarge] < 200 {
		t.Errorf("the errors are %v", seen)
	}
}

// badSamples are numbers that are no samples, with their errors.
func badSamples() map[api.Errno][]float32 {
	inf := float32(math.Inf(1))
	return map[api.Errno][]float32{
		api.ErrForm:  {float32(math.NaN()), inf, -inf},
		api.ErrRange: {1024.0625, -1024.0625, 1025, 1.0 / 32, -0.1, 3e38, -3e38, 1e-40},
	}
}

// P7.3: the wear is asked for before the limit, each number by itself.
func TestBadWorn(t *testing.T) {
	no := func(wear [12]float32, limit float32, want api.Errno) {
		t.Helper()
		what := fmt.Sprint(wear, " by ", limit)
		worn, e := valve.Worn(wear, limit)
		isList(t, what, worn, nil)
		is(t, what, e, want)
	}
	for e, l := range badSamples() {
		for _, x := range l {
			no([12]float32{}, x, e)
			no([12]float32{5, 5, 5, 5, 5, 5, 5, 5, 5, 5, 5, 1024}, x, e)
			for v := range 12 {
				no(single(v, x), 0, e)
				no(single(v, x), float32(math.NaN()), e)
				no(single(v, x), 2000, e)
				if v < 11 {
					no(with(single(v, x), 11, float32(math.NaN())), 0, e)
					no(with(single(v, x), 11, 2000), 0, e)
				}
			}
		}
	}
}

// P7.3: a wear at the limit is not worn.
func TestWorn(t *testing.T) {
	shown := [12]float32{0, 0.5, 0.5}
	zero := float32(math.Copysign(0, -1))
	for _, x := range []struct {
		wear  [12]float32
		limit float32
		want  []int
	}{
		{shown, 0.25, []int{1, 2}}, {shown, 0.4375, []int{1, 2}}, {shown, 0.5, nil}, {shown, 0, []int{1, 2}}, {shown, zero, []int{1, 2}}, {shown, -0.0625, all}, {shown, -1024, all}, {shown, 1024, nil},
		{[12]float32{11: 1024, 3: -1024, 4: zero}, 0, []int{11}}, {[12]float32{11: 1024, 3: -1024}, 1023.9375, []int{11}}, {[12]float32{11: 1024, 3: -1024}, -1024, []int{0, 1, 2, 4, 5, 6, 7, 8, 9, 10, 11}}, {[12]float32{zero, 0.0625}, zero, []int{1}},
	} {
		worn, e := valve.Worn(x.wear, x.limit)
		isList(t, fmt.Sprint(x.wear, " by ", x.limit), worn, x.want)
		is(t, fmt.Sprint(x.wear, " by ", x.limit), e, api.OK)
	}
}
