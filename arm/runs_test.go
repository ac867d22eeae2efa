package arm_test

import (
	"fmt"
	"math/rand"
	"slices"
	"testing"

	"bipole/api"
	"bipole/arm"
)

// result is what Run, Work and Log return for the same arguments.
type result struct {
	last arm.Arm
	at   int
	work int
	log  [][]float32
	e    api.Errno
}

// areResults fails a test if Run, Work or Log do not return the expected result.
func areResults(t *testing.T, what string, a arm.Arm, l []arm.Order, want result) {
	t.Helper()
	b, at, e := arm.Run(a, l)
	isArm(t, what+": Run", b, want.last)
	is(t, what+": the index of Run", at, want.at)
	is(t, what+": the error of Run", e, want.e)
	work, e := arm.Work(a, l)
	is(t, what+": Work", work, want.work)
	is(t, what+": the error of Work", e, want.e)
	log, e := arm.Log(a, l)
	if !slices.EqualFunc(log, want.log, slices.Equal[[]float32]) {
		t.Errorf("%s: Log: got %v, want %v", what, log, want.log)
	}
	is(t, what+": the error of Log", e, want.e)
}

// P2.3
func TestRun(t *testing.T) {
	areResults(t, "no orders", shown(), nil, result{last: shown()})
	areResults(t, "an order of no current", limited(0), []arm.Order{{Number: 1}}, result{last: limited(0), log: [][]float32{{7.5, 9.375, 6.875, 11.25}}})
	areResults(t, "one order", shown(), []arm.Order{{Number: 1, Current: 10}}, result{
		last: with(func(a *arm.Arm) { a.Modules[0].On, a.Modules[2] = false, arm.Module{Name: "c", Charge: 120, On: true} }),
		work: 2300,
		log:  [][]float32{{7.5, 9.375, 7.5, 11.25}},
	})
	areResults(t, "three orders", shown(), []arm.Order{{Number: 1, Current: 10}, {Number: 1, Current: -20}, {}}, result{
		last: with(func(a *arm.Arm) { a.Modules[0].On, a.Modules[1].Charge, a.Modules[2].Charge = false, 130, 120 }),
		work: -3300,
		log:  [][]float32{{7.5, 9.375, 7.5, 11.25}, {7.5, 8.125, 7.5, 11.25}, {7.5, 8.125, 7.5, 11.25}},
	})
	areResults(t, "orders without usable modules", out(), []arm.Order{{}, {Current: 20}}, result{last: out(), log: [][]float32{{7.5, 9.375, 6.875, 11.25}, {7.5, 9.375, 6.875, 11.25}}})
}

// P2.3: an order is refused for the arm after those before it.
func TestRunIsRefused(t *testing.T) {
	down := arm.Order{Number: 1, Current: -20}
	for _, x := range []struct {
		what string
		a    arm.Arm
		l    []arm.Order
		want result
	}{
		{"the first one", shown(), []arm.Order{{Number: 4}}, result{e: api.ErrInfeasible}},
		{"the band of the second one", limited(0), []arm.Order{down, {Number: 1, Current: -1}, {Number: 4}}, result{at: 1, e: api.ErrBand}},
		{"the current of the third one", shown(), []arm.Order{{Number: 1}, {Number: 2}, {Number: 4, Current: 21}}, result{at: 2, e: api.ErrTrip}},
		{"the number of the second one", limited(0), []arm.Order{{Number: 1}, {Number: 4}}, result{at: 1, e: api.ErrInfeasible}},
		{"the switchings of the second one", limited(1), []arm.Order{{Number: 2}, {}}, result{at: 1, e: api.ErrRule}},
		{"a range before an order that is refused", shown(), []arm.Order{{Number: 4}, {Number: 1, Current: 1001}}, result{e: api.ErrRange}},
	} {
		areResults(t, x.what, x.a, x.l, x.want)
	}
	for _, o := range badOrders() {
		areResults(t, fmt.Sprint("out of its range: ", o), shown(), []arm.Order{{Number: 1}, {Number: 4}, o}, result{e: api.ErrRange})
	}
}

// P2.3
func TestRunOfManyOrders(t *testing.T) {
	a := row(-16384, 1)
	log := slices.Repeat([][]float32{{1024, 0.0625}}, 256)
	areResults(t, "256 orders", a, slices.Repeat([]arm.Order{{Number: 1}}, 256), result{
		last: row(16384, -1),
		log:  log,
	})
	areResults(t, "257 orders", a, make([]arm.Order, 257), result{e: api.ErrMany})
	areResults(t, "257 orders out of their ranges", a, slices.Repeat([]arm.Order{{Number: -1}}, 257), result{e: api.ErrMany})
	areResults(t, "256 orders, the last one out of its range", a, append(make([]arm.Order, 255), arm.Order{Number: 17}), result{e: api.ErrRange})
	areResults(t, "256 orders, the last one refused", a, append(make([]arm.Order, 255), arm.Order{Number: 3}), result{at: 255, e: api.ErrInfeasible})
}

// P2.3: all results are those of the definitions.
func TestRunsOfMany(t *testing.T) {
	r := rand.New(rand.NewSource(23))
	refused := 0
	for range 3000 {
		a := randomArm(r)
		l := make([]arm.Order, r.Intn(8))
		want := result{last: a}
		for i := range l {
			l[i] = randomOrder(r, a)
			if want.e != api.OK {
				continue
			}
			next, work, e := after(want.last, l[i])
			if e != api.OK {
				want = result{at: i, e: e}
				refused++
				continue
			}
			want.last = next
			want.work += work
			var charges []float32
			for _, m := range next.Modules {
				charges = append(charges, float32(m.Charge)/16)
			}
			want.log = append(want.log, charges)
		}
		areResults(t, fmt.Sprint(a, l), a, l, want)
	}
	if refused < 300 || refused > 2700 {
		t.Errorf("%d of 3000 runs are refused", refused)
	}
}
