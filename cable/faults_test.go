package cable_test

import (
	"fmt"
	"math/rand"
	"testing"

	"bipole/api"
	"bipole/cable"
)

// P6.1
func TestCheckFault(t *testing.T) {
	eachBadFault(func(what string, c cable.Cable, f cable.Fault, e api.Errno) {
		is(t, what, cable.CheckFault(c, f), e)
	})
	for _, f := range []cable.Fault{fault, {Offset: 1, Height: -1024}, {Offset: 3, Tick: 100000, Height: 1024}, {Section: 1, Offset: 5, Tick: 1, Height: -1}, {Section: 1, Offset: 1, Tick: 99999, Height: 1}} {
		is(t, fmt.Sprint(f), cable.CheckFault(shown(), f), api.OK)
	}
	is(t, "the last section", cable.CheckFault(longest(0), cable.Fault{Section: 5, Offset: 63, Height: 1}), api.OK)
	is(t, "behind the last section", cable.CheckFault(longest(0), cable.Fault{Section: 6, Offset: 63, Height: 1}), api.ErrUnknown)
	for _, offset := range []int{-1, 0, 1, 2} {
		is(t, "a section with the delay 1", cable.CheckFault(single(5, 1, 0, 0), cable.Fault{Offset: offset, Height: 1}), api.ErrRange)
	}
	is(t, "a section with the delay 2", cable.CheckFault(single(5, 2, 0, 0), cable.Fault{Offset: 1, Height: 1}), api.OK)
}

// P6.1
func TestTurned(t *testing.T) {
	eachBadFault(func(what string, c cable.Cable, f cable.Fault, want api.Errno) {
		x, e := cable.Turned(c, f)
		is(t, what, x, cable.Fault{})
		is(t, what, e, want)
	})
	for _, x := range []struct {
		c       cable.Cable
		f, want cable.Fault
	}{
		{shown(), fault, cable.Fault{Section: 1, Offset: 3, Tick: 100, Height: 16}},
		{shown(), cable.Fault{Section: 1, Offset: 2, Tick: 7, Height: -9}, cable.Fault{Section: 0, Offset: 4, Tick: 7, Height: -9}},
		{single(5, 9, 0, 0), cable.Fault{Offset: 8, Height: 1}, cable.Fault{Offset: 1, Height: 1}},
		{longest(0), cable.Fault{Section: 2, Offset: 63, Tick: 100000, Height: 1024}, cable.Fault{Section: 3, Offset: 1, Tick: 100000, Height: 1024}},
	} {
		f, e := cable.Turned(x.c, x.f)
		is(t, fmt.Sprint(x.f, " of ", x.c), f, x.want)
		is(t, fmt.Sprint(x.f, " of ", x.c), e, api.OK)
	}
}

// P6.1: a fault of the reversed cable is in the same place, and turns back.
func TestTurnedOfMany(t *testing.T) {
	r := rand.New(rand.NewSource(612))
	for range 1000 {
		c := randomCable(r)
		f := randomFault(r, c)
		what := fmt.Sprint(f, " of ", c)
		d, _ := cable.Reversed(c)
		x, e := cable.Turned(c, f)
		is(t, what, e, api.OK)
		back, e := cable.Turned(d, x)
		is(t, what, back, f)
		is(t, what, e, api.OK)
		l, _ := cable.Length(c)
		p, _ := cable.Place(c, ticksFromA(c, f))
		q, _ := cable.Place(d, ticksFromA(d, x))
		sum := exact(p)
		is(t, what, lowest(sum.Add(sum, exact(q))), ratio(l[0], 1))
	}
}

// ticksFromA returns the time of a wave from the end A to a fault.
func ticksFromA(c cable.Cable, f cable.Fault) int {
	ticks := f.Offset
	for _, s := range c.Sections[:f.Section] {
		ticks += s.Delay
	}
	return ticks
}

// noDirect fails a test if a first wave comes, or there is another error.
func noDirect(t *testing.T, what string, c cable.Cable, f cable.Fault, end string, want api.Errno) {
	t.Helper()
	x, e := cable.Direct(c, f, end)
	is(t, what, x, [2]int{})
	is(t, what, e, want)
}

// P6.2
func TestNoDirect(t *testing.T) {
	eachBadFault(func(what string, c cable.Cable, f cable.Fault, e api.Errno) {
		noDirect(t, what, c, f, "A", e)
		noDirect(t, what, c, f, "C", e)
	})
	for _, end := range badEnds {
		noDirect(t, end, shown(), fault, end, api.ErrKind)
	}
	c := shown()
	c.Joints[0] = -8
	noDirect(t, "nothing runs to B", c, fault, "B", api.ErrNone)
	noDirect(t, "nothing runs to B, but the end is none", c, fault, "C", api.ErrKind)
	c.Joints[0] = 8
	noDirect(t, "nothing runs to A", c, cable.Fault{Section: 1, Offset: 1, Height: 1}, "A", api.ErrNone)
	noDirect(t, "nothing runs to A", longest(8), cable.Fault{Section: 5, Offset: 1, Height: 1}, "A", api.ErrNone)
}

// P6.2: the first wave, also one that comes later than any window ends.
func TestDirect(t *testing.T) {
	late := cable.Fault{Section: 5, Offset: 63, Tick: 100000, Height: -1024}
	for _, x := range []struct {
		c    cable.Cable
		f    cable.Fault
		end  string
		want [2]int
	}{
		{shown(), fault, "A", [2]int{101, 4194304}}, {shown(), fault, "B", [2]int{109, 5242880}},
		{shown(), cable.Fault{Section: 1, Offset: 2, Tick: 0, Height: -3}, "A", [2]int{6, -9 * unit / 4}}, {shown(), cable.Fault{Section: 1, Offset: 2, Tick: 0, Height: -3}, "B", [2]int{4, -3 * unit}},
		{longest(-8), late, "A", [2]int{100383, -1 << 33}}, {longest(7), late, "A", [2]int{100383, -1 << 13}}, {longest(-7), cable.Fault{Offset: 1, Height: 1}, "B", [2]int{383, 8}},
		{longest(8), late, "B", [2]int{100001, -1 << 28}}, {longest(0), late, "A", [2]int{100383, -1 << 28}},
		{single(5, 9, 8, -8), cable.Fault{Offset: 8, Height: 2}, "A", [2]int{8, 2 * unit}}, {single(5, 9, 0, 0), cable.Fault{Offset: 8, Height: 2}, "B", [2]int{1, 2 * unit}},
	} {
		what := fmt.Sprint(x.f, " of ", x.c, " at ", x.end)
		d, e := cable.Direct(x.c, x.f, x.end)
		is(t, what, d, x.want)
		is(t, what, e, api.OK)
	}
}
