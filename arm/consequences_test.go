package arm_test

import (
	"fmt"
	"math/rand"
	"slices"
	"testing"

	"bipole/api"
	"bipole/arm"
)

// P2.6, P3: the energy grows by the work, and no charge leaves its band.
func TestConsequencesOfRuns(t *testing.T) {
	r := rand.New(rand.NewSource(261))
	done := 0
	for range 3000 {
		a := randomArm(r)
		l := make([]arm.Order, 1+r.Intn(4))
		for i := range l {
			l[i] = randomOrder(r, a)
		}
		b, _, e := arm.Run(a, l)
		if e != api.OK {
			continue
		}
		done++
		before, _ := arm.Energy(a)
		energy, e := arm.Energy(b)
		work, _ := arm.Work(a, l)
		is(t, fmt.Sprint(a, l), energy, before+work)
		is(t, "the error of the arm after all", e, api.OK)
		is(t, "the arm after all", arm.CheckArm(b), api.OK)
		log, _ := arm.Log(a, l)
		for k, row := range log {
			for i, x := range row {
				if m := a.Modules[i]; !m.Bypassed && (16*x < float32(a.Band.Low) || 16*x > float32(a.Band.High)) {
					t.Errorf("%v: the charge %d leaves the band after the order %d", a, i, k)
				}
			}
		}
	}
	if done < 300 {
		t.Errorf("only %d of 3000 runs are not refused", done)
	}
}

// P2.6, P3: the spread has a bound; a choice has as many modules as ordered, and
// no more switchings than permitted; and what is off was not strictly better.
func TestConsequencesOfChoices(t *testing.T) {
	r := rand.New(rand.NewSource(262))
	least := 0
	for range 5000 {
		a := randomArm(r)
		o := randomOrder(r, a)
		set, e := arm.Choose(a, o)
		if e != api.OK {
			continue
		}
		what := fmt.Sprint(a, o)
		is(t, what, len(set), o.Number)
		if n, e := arm.Changes(a, set); e != api.OK || n > a.Limit {
			t.Errorf("%s: %d switchings, %v", what, n, e)
		}
		if a.Limit >= len(a.Modules) {
			least++
			areBest(t, a, o.Current, set)
		}
		b, e := arm.Step(a, o)
		if e != api.OK {
			continue
		}
		bound, _ := arm.Bound(a, o)
		if spread, _ := arm.Spread(b); spread > bound {
			t.Errorf("%s: the spread %d is above %d", what, spread, bound)
		}
	}
	if least < 500 {
		t.Errorf("only %d choices are those of the best", least)
	}
}

// areBest fails a test if a usable module that is not in a set is strictly
// better than one of the set.
func areBest(t *testing.T, a arm.Arm, current int, set []int) {
	t.Helper()
	for _, i := range set {
		for k, m := range a.Modules {
			if m.Bypassed || slices.Contains(set, k) {
				continue
			}
			if in := a.Modules[i].Charge; current >= 0 && m.Charge < in || current < 0 && m.Charge > in {
				t.Errorf("%v: with the current %d the module %d is better than %d", a, current, k, i)
			}
		}
	}
}

// P2.6: no order within the greatest current fails by the band for as many steps as are guaranteed.
func TestConsequencesOfGuaranteedSteps(t *testing.T) {
	r := rand.New(rand.NewSource(263))
	for range 500 {
		a := randomArm(r)
		a.Limit = 16
		steps, _ := arm.Guaranteed(a)
		l, _ := arm.Usable(a)
		for _, sign := range []int{1, -1, 0} {
			orders := make([]arm.Order, min(steps, 30))
			for i := range orders {
				orders[i] = arm.Order{Number: r.Intn(len(l) + 1), Current: sign * a.Current}
				if sign == 0 {
					orders[i].Current = r.Intn(2*a.Current+1) - a.Current
				}
			}
			_, _, e := arm.Run(a, orders)
			is(t, fmt.Sprint(a, orders), e, api.OK)
		}
	}
}

// P2.6: one step more than guaranteed does fail.
func TestConsequencesOfOneStepMore(t *testing.T) {
	r := rand.New(rand.NewSource(264))
	for range 500 {
		a := randomArm(r)
		a.Limit = 16
		steps, _ := arm.Guaranteed(a)
		if steps == arm.MaxOrders {
			continue
		}
		l, _ := arm.Usable(a)
		var errors [2]api.Errno
		for i, current := range []int{a.Current, -a.Current} {
			_, _, errors[i] = arm.Run(a, slices.Repeat([]arm.Order{{Number: len(l), Current: current}}, steps+1))
		}
		if !slices.Contains(errors[:], api.ErrBand) {
			t.Errorf("%v: one step more than %d: got %v", a, steps, errors)
		}
	}
}

// P2.6: a mirrored arm with the opposite current has the same choice, if the current is not 0.
func TestConsequencesOfMirrors(t *testing.T) {
	r := rand.New(rand.NewSource(265))
	for range 5000 {
		a := randomArm(r)
		o := randomOrder(r, a)
		if o.Current == 0 {
			o.Current = 1
		}
		b, e := arm.Mirrored(a)
		is(t, "error of the mirrored arm", e, api.OK)
		there, e1 := arm.Choose(a, o)
		opposite, e2 := arm.Choose(b, arm.Order{Number: o.Number, Current: -o.Current})
		isList(t, fmt.Sprint(a, o), opposite, there)
		is(t, fmt.Sprint(a, o), e2, e1)
		back, _ := arm.Mirrored(b)
		isArm(t, "mirrored twice", back, a)
	}
}

// P2.6: arms are parsed as they were printed.
func TestConsequencesOfTexts(t *testing.T) {
	r := rand.New(rand.NewSource(266))
	arms := []arm.Arm{}
	for range 500 {
		arms = append(arms, randomArm(r))
	}
	for _, a := range goodArms() {
		arms = append(arms, a)
	}
	for _, a := range arms {
		s, e := arm.Print(a)
		is(t, "error of the text", e, api.OK)
		b, at, e := arm.Parse(s)
		isArm(t, s, b, a)
		is(t, s+": index", at, 0)
		is(t, s+": error", e, api.OK)
	}
}

// P2.1 to P2.5: results share no memory with arguments, and those are not changed.
func TestMemory(t *testing.T) {
	for what, f := range map[string]func(a arm.Arm) (arm.Arm, api.Errno){
		"Step": func(a arm.Arm) (arm.Arm, api.Errno) { return arm.Step(a, arm.Order{Number: 1, Current: 10}) },
		"Run": func(a arm.Arm) (arm.Arm, api.Errno) {
			b, _, e := arm.Run(a, []arm.Order{{Number: 1, Current: 10}})
			return b, e
		},
		"Run of no orders": func(a arm.Arm) (arm.Arm, api.Errno) { b, _, e := arm.Run(a, nil); return b, e },
		"Run that is stuck": func(a arm.Arm) (arm.Arm, api.Errno) {
			arm.Run(a, []arm.Order{{Number: 1, Current: 10}, {Number: 4}})
			return copyOf(a), 0
		},
		"Step by the band": func(a arm.Arm) (arm.Arm, api.Errno) {
			arm.Step(a, arm.Order{Number: 3, Current: -20})
			return copyOf(a), 0
		},
		"Bypass":   func(a arm.Arm) (arm.Arm, api.Errno) { return arm.Bypass(a, "a") },
		"Replaced": func(a arm.Arm) (arm.Arm, api.Errno) { return arm.Replaced(a, "d", 150) },
		"Mirrored": arm.Mirrored,
	} {
		a := shown()
		b, e := f(a)
		is(t, what, e, api.OK)
		isArm(t, what+": the argument", a, shown())
		clear(b.Modules)
		isArm(t, what+": the argument after the result is changed", a, shown())
	}
	l := []arm.Order{{Number: 1, Current: 10}, {Number: 1, Current: -20}}
	arm.Log(shown(), l)
	isList(t, "orders", l, []arm.Order{{Number: 1, Current: 10}, {Number: 1, Current: -20}})
	rows, _ := arm.Log(shown(), l)
	clear(rows[0])
	isList(t, "a row after another one is changed", rows[1], []float32{7.5, 8.125, 7.5, 11.25})
	rows[1] = append(rows[1][:1], 1, 2, 3, 4, 5)
	isList(t, "a row after another one has grown", rows[0], []float32{0, 0, 0, 0})
}
