package arm_test

import (
	"math"
	"math/rand"
	"slices"
	"testing"

	"bipole/api"
	"bipole/arm"
)

// anyInt returns an integer, often one at the end of a range.
func anyInt(r *rand.Rand) int {
	ends := []int{0, 1, 4, 16, 100, 256, 1000, 16384, math.MaxInt32, math.MaxInt}
	n := ends[r.Intn(len(ends))] + r.Intn(3) - 1
	if r.Intn(4) == 0 {
		n = -n - 1
	}
	return n
}

// anyList returns a list of up to 300 elements.
func anyList[T any](r *rand.Rand, element func(*rand.Rand) T) []T {
	l := make([]T, r.Intn([]int{2, 5, 20, 300}[r.Intn(4)]))
	for i := range l {
		l[i] = element(r)
	}
	return l
}

func anyModule(r *rand.Rand) arm.Module {
	return arm.Module{Name: string(anyList(r, anyByte)), Charge: anyInt(r), On: r.Intn(2) == 0, Bypassed: r.Intn(2) == 0}
}

func anyByte(r *rand.Rand) byte { return "ab \n01"[r.Intn(6)] }

func anyOrder(r *rand.Rand) arm.Order { return arm.Order{Number: anyInt(r), Current: anyInt(r)} }

func anyFloat(r *rand.Rand) float32 { return math.Float32frombits(r.Uint32()) }

// anyArm returns an arm that has one part or all from anywhere, or none.
func anyArm(r *rand.Rand) arm.Arm {
	a := randomArm(r)
	switch r.Intn(7) {
	case 0:
		a.Modules = anyList(r, anyModule)
	case 1:
		a.Band = api.Interval{Low: anyInt(r), High: anyInt(r)}
	case 2:
		a.Current = anyInt(r)
	case 3:
		a.Limit = anyInt(r)
	case 4:
		a.Modules[r.Intn(len(a.Modules))] = anyModule(r)
	case 5:
		a = arm.Arm{Modules: anyList(r, anyModule), Band: api.Interval{Low: anyInt(r), High: anyInt(r)}, Current: anyInt(r), Limit: anyInt(r)}
	}
	return a
}

// P1: every function returns, whatever its arguments are.
func TestAnyArguments(t *testing.T) {
	r := rand.New(rand.NewSource(10))
	for range 5000 {
		a, o, l := anyArm(r), anyOrder(r), anyList(r, anyOrder)
		name := string(anyList(r, anyByte))
		if len(a.Modules) > 0 && r.Intn(2) == 0 {
			name = a.Modules[0].Name
		}
		arm.CheckArm(a)
		arm.Usable(a)
		arm.Choose(a, o)
		arm.Changes(a, anyList(r, anyInt))
		arm.Step(a, o)
		arm.Run(a, l)
		arm.Voltage(a)
		arm.Spread(a)
		arm.Bound(a, o)
		arm.Energy(a)
		arm.Work(a, l)
		arm.Bypass(a, name)
		arm.Replaced(a, name, anyInt(r))
		arm.Reserve(a, anyInt(r))
		arm.Guaranteed(a)
		arm.Levels(a, anyList(r, anyFloat), anyInt(r))
		arm.Log(a, l)
		arm.Mirrored(a)
		arm.Print(a)
	}
}

// P1: every function returns, whatever its arguments are.
func TestAnyTexts(t *testing.T) {
	r := rand.New(rand.NewSource(12))
	for range 5000 {
		s := anyList(r, func(r *rand.Rand) byte { return byte(r.Intn(256)) })
		arm.Parse(string(s))
		arm.Parse("arm " + string(s))
		arm.Parse("arm 0 1 2 3\nmodule " + string(anyList(r, anyByte)))
		bad := slices.Clone([]byte(text))
		bad[r.Intn(len(bad))] = anyByte(r)
		arm.Parse(string(bad))
		arm.Parse(string(bad[:r.Intn(len(bad))]))
	}
}
