package arm_test

import (
	"fmt"
	"math"
	"math/rand"
	"slices"
	"testing"

	"bipole/api"
	"bipole/arm"
)

// P2.4
func TestBypass(t *testing.T) {
	for i, name := range []string{"a", "b", "c"} {
		b, e := arm.Bypass(shown(), name)
		isArm(t, name, b, with(module(i, func(m *arm.Module) { m.On, m.Bypassed = false, true })))
		is(t, name, e, api.OK)
	}
	for name, want := range map[string]api.Errno{"d": api.ErrTwice, "e": api.ErrUnknown, "": api.ErrUnknown, "A": api.ErrUnknown, "a ": api.ErrUnknown} {
		b, e := arm.Bypass(shown(), name)
		isArm(t, name, b, arm.Arm{})
		is(t, name, e, want)
	}
	b, e := arm.Bypass(row(-3), "m0")
	is(t, "the only one", b.Modules[0], arm.Module{Name: "m0", Charge: 3, Bypassed: true})
	is(t, "the only one", e, api.OK)
}

// P2.4
func TestReplaced(t *testing.T) {
	for _, n := range []int{100, 150, 180, 200} {
		b, e := arm.Replaced(shown(), "d", n)
		isArm(t, fmt.Sprint("with ", n), b, with(module(3, func(m *arm.Module) { *m = arm.Module{Name: "d", Charge: n} })))
		is(t, fmt.Sprint("with ", n), e, api.OK)
	}
	for _, x := range []struct {
		name   string
		charge int
		e      api.Errno
	}{
		{"d", 99, api.ErrBand}, {"d", 201, api.ErrBand}, {"d", 0, api.ErrBand}, {"d", 16384, api.ErrBand},
		{"a", 150, api.ErrState}, {"b", 150, api.ErrState}, {"a", -1, api.ErrState}, {"b", 99, api.ErrState},
		{"e", 150, api.ErrUnknown}, {"", -1, api.ErrUnknown}, {"e", 99, api.ErrUnknown},
	} {
		b, e := arm.Replaced(shown(), x.name, x.charge)
		isArm(t, fmt.Sprint(x.name, " with ", x.charge), b, arm.Arm{})
		is(t, fmt.Sprint(x.name, " with ", x.charge), e, x.e)
	}
	for _, n := range beyond(0, 16384) {
		_, e := arm.Replaced(shown(), "d", n)
		is(t, fmt.Sprint("with ", n), e, api.ErrRange)
	}
	far := with(charge(3, 16384))
	b, e := arm.Replaced(far, "d", 100)
	is(t, "the charge before does not matter", b.Modules[3], arm.Module{Name: "d", Charge: 100})
	is(t, "the charge before does not matter", e, api.OK)
}

// P2.4
func TestReserve(t *testing.T) {
	for n, want := range []int{3, 2, 1, 0} {
		k, e := arm.Reserve(shown(), n)
		is(t, fmt.Sprint("of ", n), k, want)
		is(t, fmt.Sprint("of ", n), e, api.OK)
	}
	for n := 4; n <= 16; n++ {
		k, e := arm.Reserve(shown(), n)
		is(t, fmt.Sprint("of ", n), k, 0)
		is(t, fmt.Sprint("of ", n), e, api.ErrInfeasible)
	}
	for _, n := range beyond(0, 16) {
		_, e := arm.Reserve(shown(), n)
		is(t, fmt.Sprint("of ", n), e, api.ErrRange)
	}
	k, e := arm.Reserve(out(), 0)
	is(t, "of none", k, 0)
	is(t, "of none", e, api.OK)
	k, e = arm.Reserve(row(make([]int, 16)...), 16)
	is(t, "of all", k, 0)
	is(t, "of all", e, api.OK)
}

// P2.4
func TestGuaranteed(t *testing.T) {
	current := func(a arm.Arm, n int) arm.Arm { a.Current = n; return a }
	for _, x := range []struct {
		what  string
		a     arm.Arm
		steps int
	}{
		{"the example", shown(), 0},
		{"the other example", with(charge(2, 140)), 1},
		{"down to the low", current(shown(), 10), 1},
		{"one above the low", current(shown(), 11), 0},
		{"up to the high", with(func(a *arm.Arm) { a.Modules[2].Charge, a.Modules[1].Charge = 140, 180 }), 1},
		{"above the high", with(func(a *arm.Arm) { a.Modules[2].Charge, a.Modules[1].Charge = 140, 181 }), 0},
		{"at the low", current(row(0, 8000), 1), 0},
		{"at the high", current(row(16384, 8000), 1), 0},
		{"8 steps", row(8192), 8},
		{"many steps", current(row(8192), 32), 256},
		{"one step less", current(row(8191), 32), 255},
		{"more steps than orders", current(row(8192), 1), 256},
		{"no current", current(row(0), 0), 256},
		{"no current, at both ends", current(row(0, 16384), 0), 256},
		{"no usable module", out(), 256},
		{"a bypassed module out of the band", with(func(a *arm.Arm) { a.Modules[2].Charge, a.Modules[3].Charge = 140, 0 }), 1},
	} {
		n, e := arm.Guaranteed(x.a)
		is(t, x.what, n, x.steps)
		is(t, x.what, e, api.OK)
	}
}

// P2.4
func TestLevels(t *testing.T) {
	for _, x := range []struct {
		what      string
		a         arm.Arm
		wave      []float32
		amplitude int
		levels    []int
	}{
		{"the example", shown(), []float32{4, 0, -4, 16}, 64, []int{3, 2, 0, 3}},
		{"nothing", shown(), nil, 64, nil},
		{"an odd amplitude", row(0, 0), []float32{0, -0.1875, 0.1875, -0.125, 0.125, -0.0625, 0.0625}, 3, []int{1, 0, 2, 0, 2, 1, 1}},
		{"the middle", row(0), []float32{0, -0.0625, 0.0625, 1024, -1024}, 16384, []int{1, 0, 1, 1, 0}},
		{"the least amplitude", row(0, 0, 0), []float32{0, 0.0625, -0.0625, 1, -1, 1024, -1024}, 1, []int{2, 3, 0, 3, 0, 3, 0}},
		{"no usable modules", out(), []float32{0, 1024, -1024}, 1, []int{0, 0, 0}},
		{"below 0, from the middle to the greater one", row(0), []float32{-8, -8.0625, -4, -12}, 64, []int{0, 0, 0, 0}},
		{"0 below 0", shown(), []float32{float32(math.Copysign(0, -1))}, 64, []int{2}},
		{"16 modules", row(make([]int, 16)...), []float32{0, 1, 2, 3, 3.5, 3.75, 3.8125, 4}, 64, []int{8, 10, 12, 14, 15, 16, 16, 16}},
	} {
		l, e := arm.Levels(x.a, x.wave, x.amplitude)
		isList(t, x.what, l, x.levels)
		is(t, x.what, e, api.OK)
	}
}

// P2.4
func TestLevelsOfMany(t *testing.T) {
	r := rand.New(rand.NewSource(24))
	for range 300 {
		n, amplitude := 1+r.Intn(16), 1+r.Intn(40)
		wave := make([]float32, 256)
		want := make([]int, len(wave))
		for i := range wave {
			s := r.Intn(121) - 60
			wave[i] = float32(s) / 16
			exact := float64(n*(s+amplitude)) / float64(2*amplitude)
			want[i] = int(min(max(math.Floor(exact+0.5), 0), float64(n)))
		}
		l, e := arm.Levels(row(make([]int, n)...), wave, amplitude)
		isList(t, fmt.Sprint(n, " modules with the amplitude ", amplitude), l, want)
		is(t, "its error", e, api.OK)
	}
}

// P2.4
func TestLevelsOfNoWave(t *testing.T) {
	nan, inf := float32(math.NaN()), float32(math.Inf(1))
	for _, x := range []struct {
		what      string
		wave      []float32
		amplitude int
		e         api.Errno
	}{
		{"as many as may be", make([]float32, 256), 1, api.OK},
		{"too many", make([]float32, 257), 0, api.ErrMany},
		{"too many, which are none", slices.Repeat([]float32{nan}, 257), 0, api.ErrMany},
		{"none", []float32{0, nan}, 0, api.ErrForm}, {"infinite", []float32{inf}, 1, api.ErrForm}, {"infinite below 0", []float32{-inf}, 1, api.ErrForm},
		{"one that is none behind one out of its range", []float32{0.03, nan}, 1, api.ErrRange},
		{"no multiple", []float32{1, 0.03125}, 0, api.ErrRange}, {"too great", []float32{1024.0625}, 1, api.ErrRange}, {"too small", []float32{-1025}, 1, api.ErrRange},
	} {
		l, e := arm.Levels(shown(), x.wave, x.amplitude)
		is(t, x.what, e, x.e)
		if e != api.OK {
			isList(t, x.what, l, nil)
		}
	}
	for _, n := range beyond(1, 16384) {
		l, e := arm.Levels(shown(), []float32{1}, n)
		isList(t, fmt.Sprint("the amplitude ", n), l, nil)
		is(t, fmt.Sprint("the amplitude ", n), e, api.ErrRange)
	}
	_, e := arm.Levels(shown(), nil, 0)
	is(t, "an amplitude without a wave", e, api.ErrRange)
}

// P2.4
func TestMirrored(t *testing.T) {
	ends := func(a, b int) arm.Arm {
		return with(func(x *arm.Arm) { x.Modules[0].Charge, x.Modules[1].Charge, x.Modules[2].Charge = a, b, 150 })
	}
	for _, x := range []struct {
		what    string
		a, want arm.Arm
	}{
		{"the example", shown(), with(func(a *arm.Arm) { a.Modules[0].Charge, a.Modules[2].Charge = 180, 190 })},
		{"no usable module", out(), out()},
		{"both ends", ends(100, 200), ends(200, 100)},
		{"one module in the widest band", row(1), row(16383)},
		{"a bypassed module outside of the band", with(charge(3, 0)), with(func(a *arm.Arm) { a.Modules[0].Charge, a.Modules[2].Charge, a.Modules[3].Charge = 180, 190, 0 })},
	} {
		b, e := arm.Mirrored(x.a)
		isArm(t, x.what, b, x.want)
		is(t, x.what, e, api.OK)
	}
}
