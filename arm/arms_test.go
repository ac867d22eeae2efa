package arm_test

import (
	"fmt"
	"math/rand"
	"slices"
	"strings"
	"testing"

	"bipole/api"
	"bipole/arm"
)

// badArm is an arm with an error.
type badArm struct {
	what string
	a    arm.Arm
	e    api.Errno
}

// band returns a change of the band.
func band(low, high int) func(*arm.Arm) {
	return func(a *arm.Arm) { a.Band = api.Interval{Low: low, High: high} }
}

// module returns a change of a module.
func module(i int, change func(m *arm.Module)) func(*arm.Arm) {
	return func(a *arm.Arm) { change(&a.Modules[i]) }
}

// charge returns a change of the charge of a module.
func charge(i, charge int) func(*arm.Arm) {
	return module(i, func(m *arm.Module) { m.Charge = charge })
}

// badArms returns arms with each error, most of them with later errors, too.
func badArms() []badArm {
	l := []badArm{
		{"nothing", arm.Arm{}, api.ErrEmpty},
		{"no modules", with(func(a *arm.Arm) { a.Modules, a.Band.Low, a.Limit = nil, -1, 17 }), api.ErrEmpty},
		{"an empty list of modules", with(func(a *arm.Arm) { a.Modules = []arm.Module{} }), api.ErrEmpty},
		{"17 modules", row(make([]int, 17)...), api.ErrMany},
		{"17 modules without names, and a wrong band", arm.Arm{Modules: make([]arm.Module, 17), Band: api.Interval{Low: -1}}, api.ErrMany},
		{"a high below a low out of its range", with(band(16385, 100)), api.ErrRange},
		{"a low above the high", with(band(100, 99)), api.ErrOrder},
		{"a low above the high, with a wrong current", with(func(a *arm.Arm) { a.Band, a.Current = api.Interval{Low: 200, High: 100}, -1 }), api.ErrOrder},
		{"a wrong current without names", with(func(a *arm.Arm) { a.Current, a.Modules[0].Name = 1001, "" }), api.ErrRange},
		{"a wrong limit without names", with(func(a *arm.Arm) { a.Limit, a.Modules[0].Name = 17, "" }), api.ErrRange},
		{"a name with a wrong charge", with(module(0, func(m *arm.Module) { m.Name, m.Charge = "1", -1 })), api.ErrName},
		{"a name twice with a wrong charge", with(module(2, func(m *arm.Module) { m.Name, m.Charge = "a", -1 })), api.ErrTwice},
		{"a name twice, of a bypassed one", with(module(3, func(m *arm.Module) { m.Name = "c" })), api.ErrTwice},
		{"a charge of one on and bypassed", with(module(0, func(m *arm.Module) { m.Charge, m.Bypassed = 16385, true })), api.ErrRange},
		{"a charge of a bypassed one", with(charge(3, -1)), api.ErrRange},
		{"a charge of a bypassed one, too great", with(charge(3, 16385)), api.ErrRange},
		{"on and bypassed", with(module(0, func(m *arm.Module) { m.Bypassed = true })), api.ErrConflict},
		{"on and bypassed outside of the band", with(module(0, func(m *arm.Module) { m.Bypassed, m.Charge = true, 99 })), api.ErrConflict},
		{"below the band", with(charge(1, 99)), api.ErrBand},
		{"above the band", with(charge(1, 201)), api.ErrBand},
		{"above the band, and on", with(charge(0, 201)), api.ErrBand},
		{"the band of a module before the name of another one", with(func(a *arm.Arm) { a.Modules[0].Charge, a.Modules[1].Name = 99, "" }), api.ErrBand},
		{"the name of a module before the band of another one", with(func(a *arm.Arm) { a.Modules[1].Charge, a.Modules[0].Name = 99, "" }), api.ErrName},
	}
	for _, name := range []string{"", "1a", "_a", "a-b", "a b", "ä", "a\n", strings.Repeat("x", 25)} {
		l = append(l, badArm{"the name " + name, with(module(1, func(m *arm.Module) { m.Name = name })), api.ErrName})
	}
	for _, n := range beyond(0, 16384) {
		l = append(l,
			badArm{fmt.Sprint("the low ", n), with(band(n, 99)), api.ErrRange},
			badArm{fmt.Sprint("the high ", n), with(band(100, n)), api.ErrRange},
			badArm{fmt.Sprint("the charge ", n), with(charge(2, n)), api.ErrRange})
	}
	for _, n := range beyond(0, 1000) {
		l = append(l, badArm{fmt.Sprint("the current ", n), with(func(a *arm.Arm) { a.Current = n }), api.ErrRange})
	}
	for _, n := range beyond(0, 16) {
		l = append(l, badArm{fmt.Sprint("the limit ", n), limited(n), api.ErrRange})
	}
	return l
}

// goodArms returns arms at the ends of all ranges.
func goodArms() map[string]arm.Arm {
	return map[string]arm.Arm{
		"that of the examples":    shown(),
		"all bypassed":            out(),
		"one module":              row(0),
		"16 modules":              row(-16384, 0, 16384, 1, 2, 3, 4, 5, 6, 7, 8, 9, 10, 11, 12, -16384),
		"the limit 0":             limited(0),
		"the limit 16":            limited(16),
		"the current 0":           with(func(a *arm.Arm) { a.Current = 0 }),
		"the current 1000":        with(func(a *arm.Arm) { a.Current = 1000 }),
		"both ends of the band":   with(func(a *arm.Arm) { a.Modules[0].Charge, a.Modules[1].Charge = 100, 200 }),
		"bypassed below the band": with(charge(3, 0)),
		"bypassed above the band": with(charge(3, 16384)),
		"a band of one charge":    {Modules: []arm.Module{{Name: "m", Charge: 7, On: true}}, Band: api.Interval{Low: 7, High: 7}},
		"the least band":          {Modules: []arm.Module{{Name: "m"}}},
		"the greatest band":       {Modules: []arm.Module{{Name: "m", Charge: 16384}}, Band: api.Interval{Low: 16384, High: 16384}},
		"a long name":             {Modules: []arm.Module{{Name: "A" + strings.Repeat("_9", 11) + "z"}}},
	}
}

// P2.1
func TestCheckArm(t *testing.T) {
	for _, x := range badArms() {
		is(t, x.what, arm.CheckArm(x.a), x.e)
	}
	for what, a := range goodArms() {
		is(t, what, arm.CheckArm(a), api.OK)
	}
}

// P2.1 to P2.5: each function examines its arm before all else.
func TestFunctionsExamineArms(t *testing.T) {
	wrong := arm.Order{Number: -1}
	for _, x := range badArms() {
		for what, f := range map[string]func(a arm.Arm) (any, api.Errno){
			"Usable":     func(a arm.Arm) (any, api.Errno) { l, e := arm.Usable(a); return l, e },
			"Choose":     func(a arm.Arm) (any, api.Errno) { l, e := arm.Choose(a, wrong); return l, e },
			"Changes":    func(a arm.Arm) (any, api.Errno) { n, e := arm.Changes(a, []int{-1}); return n, e },
			"Step":       func(a arm.Arm) (any, api.Errno) { b, e := arm.Step(a, wrong); return b, e },
			"Run":        func(a arm.Arm) (any, api.Errno) { b, n, e := arm.Run(a, []arm.Order{{}, wrong}); return []any{b, n}, e },
			"Voltage":    func(a arm.Arm) (any, api.Errno) { n, e := arm.Voltage(a); return n, e },
			"Spread":     func(a arm.Arm) (any, api.Errno) { n, e := arm.Spread(a); return n, e },
			"Bound":      func(a arm.Arm) (any, api.Errno) { n, e := arm.Bound(a, wrong); return n, e },
			"Energy":     func(a arm.Arm) (any, api.Errno) { n, e := arm.Energy(a); return n, e },
			"Work":       func(a arm.Arm) (any, api.Errno) { n, e := arm.Work(a, []arm.Order{wrong}); return n, e },
			"Bypass":     func(a arm.Arm) (any, api.Errno) { b, e := arm.Bypass(a, "nothing"); return b, e },
			"Replaced":   func(a arm.Arm) (any, api.Errno) { b, e := arm.Replaced(a, "nothing", -1); return b, e },
			"Reserve":    func(a arm.Arm) (any, api.Errno) { n, e := arm.Reserve(a, -1); return n, e },
			"Guaranteed": func(a arm.Arm) (any, api.Errno) { n, e := arm.Guaranteed(a); return n, e },
			"Levels":     func(a arm.Arm) (any, api.Errno) { l, e := arm.Levels(a, make([]float32, 257), 0); return l, e },
			"Log":        func(a arm.Arm) (any, api.Errno) { l, e := arm.Log(a, []arm.Order{wrong}); return l, e },
			"Mirrored":   func(a arm.Arm) (any, api.Errno) { b, e := arm.Mirrored(a); return b, e },
			"Print":      func(a arm.Arm) (any, api.Errno) { s, e := arm.Print(a); return s, e },
		} {
			value, e := f(x.a)
			is(t, what+" of "+x.what, e, x.e)
			if s := fmt.Sprint(value); !slices.Contains([]string{"[]", "0", "", "{[] {0 0} 0 0}", "[{[] {0 0} 0 0} 0]"}, s) {
				t.Errorf("%s of %s: got %s beside an error", what, x.what, s)
			}
		}
	}
}

// P2.1
func TestUsable(t *testing.T) {
	for what, want := range map[string][]int{
		"that of the examples": {0, 1, 2},
		"all bypassed":         {},
		"one module":           {0},
		"16 modules":           {0, 1, 2, 3, 4, 5, 6, 7, 8, 9, 10, 11, 12, 13, 14, 15},
	} {
		l, e := arm.Usable(goodArms()[what])
		isList(t, what, l, want)
		is(t, what, e, api.OK)
	}
	l, _ := arm.Usable(with(func(a *arm.Arm) { a.Modules[0].On, a.Modules[0].Bypassed = false, true }))
	isList(t, "behind a bypassed one", l, []int{1, 2})
}

// P2.1
func TestSums(t *testing.T) {
	full := make([]int, 16)
	for i := range full {
		full[i] = -16384
	}
	for _, x := range []struct {
		what                    string
		a                       arm.Arm
		voltage, spread, energy int
	}{
		{"that of the examples", shown(), 120, 40, 49000},
		{"all bypassed", out(), 0, 0, 0},
		{"one module that is off", row(16384), 0, 0, 1 << 28},
		{"one module that is on", row(-5), 5, 0, 25},
		{"two modules that are on", row(-5, 7, -3), 8, 4, 83},
		{"an empty module", row(0, 16384), 0, 16384, 1 << 28},
		{"full modules", row(full...), 1 << 18, 0, 1 << 32},
		{"a bypassed module that is alone at an end", with(charge(3, 0)), 120, 40, 49000},
	} {
		voltage, e1 := arm.Voltage(x.a)
		spread, e2 := arm.Spread(x.a)
		energy, e3 := arm.Energy(x.a)
		is(t, x.what+": voltage, spread, energy", [3]int{voltage, spread, energy}, [3]int{x.voltage, x.spread, x.energy})
		is(t, x.what, [3]api.Errno{e1, e2, e3}, [3]api.Errno{})
	}
}

// P2.1
func TestSumsOfMany(t *testing.T) {
	r := rand.New(rand.NewSource(21))
	for range 300 {
		a := randomArm(r)
		var indices, charges []int
		voltage, energy := 0, 0
		for i, m := range a.Modules {
			if m.Bypassed {
				continue
			}
			indices, charges = append(indices, i), append(charges, m.Charge)
			energy += m.Charge * m.Charge
			if m.On {
				voltage += m.Charge
			}
		}
		spread := 0
		if len(charges) > 0 {
			spread = slices.Max(charges) - slices.Min(charges)
		}
		l, _ := arm.Usable(a)
		isList(t, "usable modules", l, indices)
		n1, _ := arm.Voltage(a)
		n2, _ := arm.Spread(a)
		n3, _ := arm.Energy(a)
		is(t, fmt.Sprint(a), [3]int{n1, n2, n3}, [3]int{voltage, spread, energy})
	}
}
