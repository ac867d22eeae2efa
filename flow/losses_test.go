package flow_test

import (
	"fmt"
	"math/big"
	"math/rand"
	"slices"
	"testing"

	"bipole/api"
	"bipole/flow"
)

// shown is the losses of the chapter's examples.
var shown = flow.Losses{Fixed: 1, Linear: 32, Square: 256}

// lossOf returns the loss at a power, by the definition.
func lossOf(x flow.Losses, power int) api.Interval {
	if power == 0 {
		return api.Interval{}
	}
	p := int64(power)
	lost := big.NewRat(int64(x.Fixed), 1)
	lost.Add(lost, big.NewRat(int64(x.Linear)*p, 1024))
	lost.Add(lost, big.NewRat(int64(x.Square)*p*p, 1024*1024))
	low := int(new(big.Int).Div(lost.Num(), lost.Denom()).Int64())
	if lost.IsInt() {
		return api.Interval{Low: low, High: low}
	}
	return api.Interval{Low: low, High: low + 1}
}

// deliveredOf returns what is delivered of a power, by the definition.
func deliveredOf(x flow.Losses, power int) api.Interval {
	l := lossOf(x, power)
	return api.Interval{Low: max(0, power-l.High), High: max(0, power-l.Low)}
}

// randomLosses returns losses, many of which are small.
func randomLosses(r *rand.Rand) flow.Losses {
	part := func() int { return r.Intn([]int{2, 50, 1001}[r.Intn(3)]) }
	return flow.Losses{Fixed: part(), Linear: part(), Square: part()}
}

// P5.2: each function asks for the losses before all else.
func TestBadLosses(t *testing.T) {
	var bad []flow.Losses
	for _, n := range beyond(0, 1000) {
		bad = append(bad, flow.Losses{Fixed: n}, flow.Losses{Linear: n}, flow.Losses{Square: n}, flow.Losses{Fixed: n, Linear: n, Square: n}, flow.Losses{Fixed: 1000, Linear: 1000, Square: n})
	}
	for _, x := range bad {
		what := fmt.Sprint(x)
		is(t, what, flow.CheckLosses(x), api.ErrRange)
		for _, power := range []int{-1, 0, 5} {
			interval, e := flow.Loss(x, power)
			is(t, what, interval, api.Interval{})
			is(t, what, e, api.ErrRange)
			interval, e = flow.Delivered(x, power)
			is(t, what, interval, api.Interval{})
			is(t, what, e, api.ErrRange)
			needed, e := flow.Needed(x, power)
			is(t, what, needed, 0)
			is(t, what, e, api.ErrRange)
		}
		for _, powers := range [][]int{nil, {5}, {-1}, make([]int, 257)} {
			interval, e := flow.Balance(x, powers)
			is(t, what, interval, api.Interval{})
			is(t, what, e, api.ErrRange)
		}
	}
	for _, x := range []flow.Losses{{}, shown, {Fixed: 1000}, {Linear: 1000}, {Square: 1000}, {Fixed: 1000, Linear: 1000, Square: 1000}} {
		is(t, fmt.Sprint(x), flow.CheckLosses(x), api.OK)
	}
}

// P5.2
func TestBadPowers(t *testing.T) {
	for _, power := range beyond(0, 1000) {
		what := fmt.Sprint("the power ", power)
		interval, e := flow.Loss(shown, power)
		is(t, what, interval, api.Interval{})
		is(t, what, e, api.ErrRange)
		interval, e = flow.Delivered(shown, power)
		is(t, what, interval, api.Interval{})
		is(t, what, e, api.ErrRange)
		needed, e := flow.Needed(shown, power)
		is(t, what, needed, 0)
		is(t, what, e, api.ErrRange)
		for _, powers := range [][]int{{power}, {5, power}, {power, 5}, append(make([]int, 255), power)} {
			interval, e = flow.Balance(shown, powers)
			is(t, what, interval, api.Interval{})
			is(t, what, e, api.ErrRange)
		}
		interval, e = flow.Balance(shown, append(make([]int, 256), power))
		is(t, what, interval, api.Interval{})
		is(t, what, e, api.ErrMany)
	}
}

// P5.2
func TestLosses(t *testing.T) {
	most := flow.Losses{Fixed: 1000, Linear: 1000, Square: 1000}
	for _, x := range []struct {
		x               flow.Losses
		power           int
		loss, delivered api.Interval
	}{
		{shown, 64, api.Interval{Low: 4, High: 4}, api.Interval{Low: 60, High: 60}},
		{shown, 32, api.Interval{Low: 2, High: 3}, api.Interval{Low: 29, High: 30}},
		{shown, 0, api.Interval{}, api.Interval{}},
		{shown, 1, api.Interval{Low: 1, High: 2}, api.Interval{Low: 0, High: 0}},
		{shown, 2, api.Interval{Low: 1, High: 2}, api.Interval{Low: 0, High: 1}},
		{flow.Losses{}, 1000, api.Interval{}, api.Interval{Low: 1000, High: 1000}},
		{flow.Losses{Fixed: 5}, 3, api.Interval{Low: 5, High: 5}, api.Interval{}},
		{flow.Losses{Fixed: 5}, 5, api.Interval{Low: 5, High: 5}, api.Interval{}},
		{flow.Losses{Fixed: 5}, 6, api.Interval{Low: 5, High: 5}, api.Interval{Low: 1, High: 1}},
		{flow.Losses{Fixed: 5}, 0, api.Interval{}, api.Interval{}},
		{flow.Losses{Linear: 1}, 1, api.Interval{Low: 0, High: 1}, api.Interval{Low: 0, High: 1}},
		{flow.Losses{Linear: 512}, 6, api.Interval{Low: 3, High: 3}, api.Interval{Low: 3, High: 3}},
		{flow.Losses{Linear: 512}, 7, api.Interval{Low: 3, High: 4}, api.Interval{Low: 3, High: 4}},
		{flow.Losses{Square: 1}, 1, api.Interval{Low: 0, High: 1}, api.Interval{Low: 0, High: 1}},
		{flow.Losses{Square: 256}, 64, api.Interval{Low: 1, High: 1}, api.Interval{Low: 63, High: 63}},
		{flow.Losses{Square: 1000}, 1000, api.Interval{Low: 953, High: 954}, api.Interval{Low: 46, High: 47}},
		{most, 1000, api.Interval{Low: 2930, High: 2931}, api.Interval{}},
		{flow.Losses{Linear: 1000, Square: 24}, 1000, api.Interval{Low: 999, High: 1000}, api.Interval{Low: 0, High: 1}},
	} {
		what := fmt.Sprint(x.x, " at ", x.power)
		l, e := flow.Loss(x.x, x.power)
		is(t, "loss of "+what, l, x.loss)
		is(t, "loss of "+what, e, api.OK)
		d, e := flow.Delivered(x.x, x.power)
		is(t, "delivered of "+what, d, x.delivered)
		is(t, "delivered of "+what, e, api.OK)
	}
}

// P5.2: losses, what is delivered and the needed power are those of the
// definitions.
func TestLossesOfMany(t *testing.T) {
	r := rand.New(rand.NewSource(521))
	none := 0
	for range 150 {
		x := randomLosses(r)
		var lows []int // what is at least delivered of each power
		for power := range 1001 {
			l, e := flow.Loss(x, power)
			is(t, fmt.Sprint("loss of ", x, " at ", power), l, lossOf(x, power))
			is(t, fmt.Sprint("loss of ", x, " at ", power), e, api.OK)
			want := deliveredOf(x, power)
			d, e := flow.Delivered(x, power)
			is(t, fmt.Sprint("delivered of ", x, " at ", power), d, want)
			is(t, fmt.Sprint("delivered of ", x, " at ", power), e, api.OK)
			lows = append(lows, want.Low)
		}
		for range 20 {
			power := r.Intn(1001)
			want, wanted := slices.IndexFunc(lows, func(low int) bool { return low >= power }), api.OK
			if want < 0 {
				want, wanted = 0, api.ErrNone
				none++
			}
			needed, e := flow.Needed(x, power)
			is(t, fmt.Sprint("needed of ", x, " at ", power), needed, want)
			is(t, fmt.Sprint("needed of ", x, " at ", power), e, wanted)
		}
	}
	if none < 500 || none > 2500 {
		t.Errorf("%d of 3000 powers have no needed one", none)
	}
}

// P5.2
func TestNeeded(t *testing.T) {
	for _, x := range []struct {
		x             flow.Losses
		power, needed int
		e             api.Errno
	}{
		{shown, 60, 64, api.OK}, {shown, 0, 0, api.OK}, {shown, 1, 3, api.OK}, {shown, 29, 32, api.OK}, {shown, 1000, 0, api.ErrNone},
		{flow.Losses{}, 1000, 1000, api.OK}, {flow.Losses{}, 0, 0, api.OK}, {flow.Losses{}, 7, 7, api.OK},
		{flow.Losses{Fixed: 1}, 999, 1000, api.OK}, {flow.Losses{Fixed: 1}, 1000, 0, api.ErrNone}, {flow.Losses{Fixed: 1000}, 1, 0, api.ErrNone}, {flow.Losses{Fixed: 1000}, 0, 0, api.OK}, {flow.Losses{Fixed: 999}, 1, 1000, api.OK},
		{flow.Losses{Linear: 1}, 999, 1000, api.OK}, {flow.Losses{Linear: 1000, Square: 1000}, 6, 0, api.ErrNone},
	} {
		needed, e := flow.Needed(x.x, x.power)
		is(t, fmt.Sprint(x.x, " for ", x.power), needed, x.needed)
		is(t, fmt.Sprint(x.x, " for ", x.power), e, x.e)
	}
}

// P5.2: more power may deliver less; the least that is enough is needed.
func TestNeededOfFallingDelivery(t *testing.T) {
	x := flow.Losses{Fixed: 0, Linear: 500, Square: 1000}
	most, at := 0, 0
	for power := range 1001 {
		if low := deliveredOf(x, power).Low; low > most {
			most, at = low, power
		}
	}
	if at == 1000 || deliveredOf(x, 1000).Low >= most {
		t.Fatalf("%v delivers the most at %d", x, at)
	}
	needed, e := flow.Needed(x, most)
	is(t, "the most that is delivered", needed, at)
	is(t, "the most that is delivered", e, api.OK)
	needed, e = flow.Needed(x, most+1)
	is(t, "more than that", needed, 0)
	is(t, "more than that", e, api.ErrNone)
}

// P5.2
func TestBalance(t *testing.T) {
	for _, x := range []struct {
		x      flow.Losses
		powers []int
		want   api.Interval
	}{
		{shown, []int{64, 32, 0}, api.Interval{Low: 89, High: 90}},
		{shown, []int{32, 32, 32}, api.Interval{Low: 87, High: 90}},
		{shown, nil, api.Interval{}}, {shown, []int{}, api.Interval{}}, {shown, []int{0, 0}, api.Interval{}},
		{flow.Losses{Fixed: 5}, []int{3, 7, 3}, api.Interval{Low: 2, High: 2}},
		{flow.Losses{}, []int{1000, 1, 1000}, api.Interval{Low: 2001, High: 2001}},
	} {
		balance, e := flow.Balance(x.x, x.powers)
		is(t, fmt.Sprint(x.x, x.powers), balance, x.want)
		is(t, fmt.Sprint(x.x, x.powers), e, api.OK)
	}
	powers := make([]int, 256)
	for i := range powers {
		powers[i] = 1000
	}
	balance, e := flow.Balance(flow.Losses{Linear: 1}, powers)
	is(t, "the most powers", balance, api.Interval{Low: 256 * 999, High: 256 * 1000})
	is(t, "the most powers", e, api.OK)
	balance, e = flow.Balance(flow.Losses{Linear: 1}, append(powers, 1000))
	is(t, "too many powers", balance, api.Interval{})
	is(t, "too many powers", e, api.ErrMany)
}
