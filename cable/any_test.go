package cable_test

import (
	"fmt"
	"math"
	"math/rand"
	"slices"
	"testing"

	"bipole/api"
	"bipole/cable"
)

// anyInt returns an integer, often one at the end of a range.
func anyInt(r *rand.Rand) int {
	ends := []int{0, 1, 6, 8, 64, 1000, 1024, 100000, 999999999, 1 << 40, 1 << 44, math.MaxInt32, math.MaxInt}
	n := ends[r.Intn(len(ends))] + r.Intn(3) - 1
	if r.Intn(3) == 0 {
		n = -n - 1
	}
	return n
}

// anyList returns a list of up to 300 elements.
func anyList[T any](r *rand.Rand, element func(*rand.Rand) T) []T {
	l := make([]T, r.Intn([]int{2, 5, 8, 300}[r.Intn(4)]))
	for i := range l {
		l[i] = element(r)
	}
	return l
}

func anySection(r *rand.Rand) cable.Section {
	return cable.Section{Length: anyInt(r), Delay: anyInt(r)}
}

func anyEnd(r *rand.Rand) string { return []string{"A", "B", "A", "B", "C", ""}[r.Intn(6)] }

func anyArrival(r *rand.Rand) cable.Arrival {
	return cable.Arrival{Tick: anyInt(r), End: anyEnd(r), Height: anyInt(r)}
}

func anyByte(r *rand.Rand) byte { return "cable section joint 019-\n"[r.Intn(25)] }

// anyCable returns a cable that has one part or all from anywhere, or none.
func anyCable(r *rand.Rand) cable.Cable {
	c := randomCable(r)
	switch r.Intn(8) {
	case 0:
		c.Sections = anyList(r, anySection)
	case 1:
		c.Joints = anyList(r, anyInt)
	case 2:
		c.Ends = [2]int{anyInt(r), anyInt(r)}
	case 3:
		c = cable.Cable{Sections: anyList(r, anySection), Joints: anyList(r, anyInt), Ends: [2]int{anyInt(r), anyInt(r)}}
	}
	return c
}

// anyFault returns a fault of a cable, or one from anywhere.
func anyFault(r *rand.Rand, c cable.Cable) cable.Fault {
	f := cable.Fault{Section: anyInt(r), Offset: anyInt(r), Tick: anyInt(r), Height: anyInt(r)}
	if cable.CheckCable(c) == api.OK && r.Intn(3) > 0 {
		f.Section = r.Intn(len(c.Sections))
		f.Offset, f.Tick = r.Intn(c.Sections[f.Section].Delay), r.Intn(9)
	}
	return f
}

// anyZone returns a zone of a cable, or one from anywhere.
func anyZone(r *rand.Rand, c cable.Cable) cable.Zone {
	if len(c.Sections) > 0 && r.Intn(2) == 0 {
		return randomZone(r, c)
	}
	return cable.Zone{Sections: api.Span{From: anyInt(r), To: anyInt(r)}, Least: anyInt(r), Most: anyInt(r), End: anyEnd(r)}
}

// anyArrivals returns arrivals, or some from anywhere.
func anyArrivals(r *rand.Rand) []cable.Arrival {
	if r.Intn(3) == 0 {
		return anyList(r, anyArrival)
	}
	return randomArrivals(r, 5)
}

// P1: every function returns, whatever its arguments are.
func TestAnyCables(t *testing.T) {
	r := rand.New(rand.NewSource(61))
	for range 20000 {
		c := anyCable(r)
		f, z := anyFault(r, c), anyZone(r, c)
		cable.CheckCable(c)
		cable.Length(c)
		cable.Place(c, anyInt(r))
		cable.CheckFault(c, f)
		cable.Run(c, f, anyInt(r))
		cable.Arrivals(c, f, anyInt(r))
		cable.Direct(c, f, anyEnd(r))
		cable.Factor(c, anyInt(r), anyEnd(r))
		cable.Thresholds(c, z)
		cable.Locate(c, interval(anyInt(r), anyInt(r)), interval(anyInt(r), anyInt(r)))
		cable.Cleared(c, f, planned(anyInt(r), anyInt(r), anyInt(r), anyInt(r), anyInt(r)))
		cable.Record(c, f, anyEnd(r), anyInt(r))
		cable.Reversed(c)
		cable.Turned(c, f)
		cable.Split(c, anyInt(r), anyInt(r))
		cable.Print(c)
	}
}

// P1: every function returns, whatever its arguments are.
func TestAnyArrivals(t *testing.T) {
	r := rand.New(rand.NewSource(62))
	for range 20000 {
		l := anyArrivals(r)
		cable.First(l, anyEnd(r))
		cable.Trips(l, anyZone(r, shown()), anyInt(r))
		cable.Opening(l, anyEnd(r), anyInt(r), anyInt(r), anyInt(r))
	}
}

// P1: every function returns, whatever its arguments are.
func TestAnyTexts(t *testing.T) {
	r := rand.New(rand.NewSource(63))
	for range 5000 {
		s := anyList(r, func(r *rand.Rand) byte { return byte(r.Intn(256)) })
		cable.Parse(string(s))
		cable.Parse("cable " + string(s))
		cable.Parse("cable 1 1\nsection 1" + string(anyList(r, anyByte)))
		bad := []byte(text)
		bad[r.Intn(len(bad))] = anyByte(r)
		cable.Parse(string(bad))
		cable.Parse(string(bad[:r.Intn(len(bad))]))
	}
}

// P1: the greatest numbers on the way are not too large for an integer.
func TestGreatestNumbers(t *testing.T) {
	high := cable.Fault{Section: 2, Offset: 63, Tick: 100000, Height: 1024}
	for _, factor := range []int{8, -8} {
		c := longest(factor)
		steps, e := cable.Run(c, high, 1000)
		is(t, "the highest waves", e, api.OK)
		isList(t, "the highest waves", steps, stepsOf(c, high, 1000))
	}
	l := make([]cable.Arrival, 2048)
	for i := range l {
		l[i] = cable.Arrival{Tick: i, End: "A", Height: 1 << 44}
	}
	notOpened(t, "the greatest sum", l, "A", 2048, 1<<40, 1000, api.ErrNone)
	for i := range l {
		l[i].Height = -l[i].Height
	}
	notOpened(t, "the least sum", l, "A", 2048, 1<<40, 1000, api.ErrNone)
}

// P6.1 to P6.4: results share no memory with arguments or with earlier results,
// and arguments are not changed.
func TestMemory(t *testing.T) {
	c := longest(5)
	c.Sections, c.Joints = c.Sections[:4], c.Joints[:3]
	same := func(what string) {
		t.Helper()
		isList(t, what, c.Sections[:6], longest(5).Sections)
		isList(t, what, c.Joints[:5], longest(5).Joints)
	}
	change := func(x cable.Cable) {
		clear(append(x.Sections, cable.Section{}))
		clear(append(x.Joints, 0))
	}
	for section := range 4 {
		split, _ := cable.Split(c, section, 1)
		change(split)
		same("a cable that was split")
	}
	reversed, _ := cable.Reversed(c)
	change(reversed)
	same("a cable that was reversed")
	f := cable.Fault{Section: 1, Offset: 1, Height: 1}
	cable.Run(c, f, 1000)
	cable.Record(c, f, "A", 1000)
	cable.Thresholds(c, zone)
	cable.Locate(c, interval(5, 5), interval(5, 5))
	cable.Cleared(c, f, plan)
	cable.Print(c)
	same("a cable that was used")
	heardTwice := func() []cable.Arrival {
		l, _ := cable.Arrivals(shown(), fault, 10)
		return l
	}
	clear(heardTwice())
	isList(t, "arrivals", heardTwice(), heard())
	steps, _ := cable.Run(shown(), fault, 10)
	want := slices.Clone(steps)
	clear(steps)
	steps, _ = cable.Run(shown(), fault, 10)
	isList(t, "steps", steps, want)
	l := heard()
	cable.First(l, "B")
	cable.Trips(l, zone, 1)
	cable.Opening(l, "A", 5, 1, 10)
	isList(t, "arrivals that were used", l, heard())
	parsed, _, _ := cable.Parse(text)
	change(parsed)
	parsed, _, _ = cable.Parse(text)
	is(t, "a cable of a text", fmt.Sprint(parsed), fmt.Sprint(shown()))
}
