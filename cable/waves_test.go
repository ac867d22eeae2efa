package cable_test

import (
	"fmt"
	"math/big"
	"math/rand"
	"slices"
	"testing"

	"bipole/api"
	"bipole/cable"
)

// notRun fails a test if a fault has steps or arrivals, or another error.
func notRun(t *testing.T, what string, c cable.Cable, f cable.Fault, window int, want api.Errno) {
	t.Helper()
	steps, e := cable.Run(c, f, window)
	isList(t, what, steps, nil)
	is(t, what, e, want)
	arrivals, e := cable.Arrivals(c, f, window)
	isList(t, what, arrivals, nil)
	is(t, what, e, want)
}

// P6.2
func TestNotRun(t *testing.T) {
	eachBadFault(func(what string, c cable.Cable, f cable.Fault, e api.Errno) {
		notRun(t, what, c, f, 10, e)
		notRun(t, what, c, f, -1, e)
	})
	for _, n := range beyond(0, 1000) {
		notRun(t, fmt.Sprint("the window ", n), shown(), fault, n, api.ErrRange)
	}
}

// isRun fails a test if the steps of a fault in a window are not the expected ones.
func isRun(t *testing.T, c cable.Cable, f cable.Fault, window int, want []cable.Step) {
	t.Helper()
	what := fmt.Sprint(f, " of ", c, " in ", window)
	l, e := cable.Run(c, f, window)
	isList(t, what, l, want)
	is(t, what, e, api.OK)
}

// P6.2: the window has its last tick.
func TestRun(t *testing.T) {
	steps := []cable.Step{
		{Tick: 101, Boundary: 0, Height: 16 * unit}, {Tick: 103, Boundary: 1, Right: true, Height: 16 * unit}, {Tick: 105, Boundary: 1, Right: true, Hops: 1, Height: 8 * unit},
		{Tick: 107, Boundary: 0, Hops: 1, Height: 4 * unit}, {Tick: 109, Boundary: 0, Hops: 2, Height: 2 * unit}, {Tick: 109, Boundary: 2, Right: true, Hops: 1, Height: 20 * unit},
	}
	for window, n := range map[int]int{0: 0, 1: 1, 2: 1, 3: 2, 4: 2, 5: 3, 6: 3, 7: 4, 8: 4, 9: 6, 10: 6} {
		isRun(t, shown(), fault, window, steps[:n])
	}
	isRun(t, single(5, 64, 8, 8), cable.Fault{Offset: 63, Tick: 100000, Height: -1024}, 63, []cable.Step{{Tick: 100001, Boundary: 1, Right: true, Height: -1 << 28}, {Tick: 100063, Boundary: 0, Height: -1 << 28}})
}

// P6.2: a wave ends at the boundary behind six others.
func TestRunOfMostHops(t *testing.T) {
	var left, right []cable.Step
	for i := range 7 {
		left = append(left, cable.Step{Tick: 1 + 4*i, Boundary: i % 2, Right: i%2 == 1, Hops: i, Height: 3 * unit})
		right = append(right, cable.Step{Tick: 3 + 4*i, Boundary: (i + 1) % 2, Right: i%2 == 0, Hops: i, Height: 3 * unit})
	}
	var both []cable.Step
	for i := range left {
		both = append(both, left[i], right[i])
	}
	isRun(t, single(5, 4, 8, 8), cable.Fault{Offset: 1, Height: 3}, 1000, both)
	isRun(t, single(5, 4, 8, 8), cable.Fault{Offset: 1, Height: 3}, 24, both[:12])
	isRun(t, single(5, 4, 0, 0), cable.Fault{Offset: 1, Height: 3}, 1000, both[:2])
	for i := range both {
		both[i].Height >>= 3 * both[i].Hops
	}
	isRun(t, single(5, 4, 1, 1), cable.Fault{Offset: 1, Height: 3}, 1000, both)
}

// P6.2: at a joint the directions have opposite factors, and waves with the
// height 0 do not run.
func TestRunAtJoints(t *testing.T) {
	for factor, want := range map[int][4]int{3: {11, 3, 5, -3}, -3: {5, -3, 11, 3}, 8: {16, 8, 0, -8}, -8: {0, -8, 16, 8}, 0: {8, 0, 8, 0}} {
		c := cable.Cable{Sections: sections([2]int{1, 5}, [2]int{1, 7}), Joints: []int{factor}}
		isRun(t, c, cable.Fault{Offset: 3, Tick: 10, Height: 2}, 14, existing(
			cable.Step{Tick: 12, Boundary: 1, Right: true, Height: 2 * unit}, cable.Step{Tick: 13, Boundary: 0, Height: 2 * unit},
			cable.Step{Tick: 17, Boundary: 0, Hops: 1, Height: 2 * unit / 8 * want[1]}, cable.Step{Tick: 19, Boundary: 2, Right: true, Hops: 1, Height: 2 * unit / 8 * want[0]}))
		isRun(t, c, cable.Fault{Section: 1, Offset: 4, Tick: 10, Height: -2}, 14, existing(
			cable.Step{Tick: 13, Boundary: 2, Right: true, Height: -2 * unit}, cable.Step{Tick: 14, Boundary: 1, Height: -2 * unit},
			cable.Step{Tick: 19, Boundary: 0, Hops: 1, Height: -2 * unit / 8 * want[2]}, cable.Step{Tick: 21, Boundary: 2, Right: true, Hops: 1, Height: -2 * unit / 8 * want[3]}))
	}
}

// existing returns the steps whose height is not 0.
func existing(l ...cable.Step) []cable.Step {
	return slices.DeleteFunc(l, func(s cable.Step) bool { return s.Height == 0 })
}

// P6.2: steps at the same tick and boundary stand in their order, also equal ones.
func TestRunOfOneMoment(t *testing.T) {
	l, e := cable.Run(cable.Cable{Sections: sections([2]int{1, 2}, [2]int{1, 2}, [2]int{1, 4}), Joints: []int{4, -4}, Ends: [2]int{4, 4}}, cable.Fault{Section: 1, Offset: 1, Height: 8}, 1000)
	is(t, "two joints", e, api.OK)
	equal, directions, hops, heights := 0, 0, 0, 0
	for i, s := range l[1:] {
		before := l[i]
		switch {
		case s.Tick != before.Tick || s.Boundary != before.Boundary:
		case s == before:
			equal++
		case s.Right && !before.Right:
			directions++
		case s.Right == before.Right && s.Hops > before.Hops:
			hops++
		case s.Right == before.Right && s.Hops == before.Hops && s.Height > before.Height:
			heights++
		default:
			t.Errorf("%v stands before %v", before, s)
		}
	}
	if equal == 0 || directions == 0 || hops == 0 || heights == 0 {
		t.Errorf("there are %d equal ones, %d of both directions, %d of other hops and %d of other heights", equal, directions, hops, heights)
	}
}

// pulse is a wave on its way: its section, how many ticks it is to the right of
// the section's left boundary, where it runs, what it met and how high it is.
type pulse struct {
	section, offset, direction, hops int
	height                           *big.Rat
}

// times returns a height times so many eighths.
func times(height *big.Rat, eighths int) *big.Rat {
	return new(big.Rat).Mul(height, big.NewRat(int64(eighths), 8))
}

// parted returns what becomes of a pulse that is at a boundary, by the definition.
func parted(c cable.Cable, p pulse) []pulse {
	toRight := func(section int, height *big.Rat) pulse { return pulse{section, 0, 1, p.hops + 1, height} }
	toLeft := func(section int, height *big.Rat) pulse {
		return pulse{section, c.Sections[section].Delay, -1, p.hops + 1, height}
	}
	last := len(c.Sections) - 1
	switch {
	case p.direction > 0 && p.section == last:
		return []pulse{toLeft(last, times(p.height, c.Ends[1]))}
	case p.direction > 0:
		r := c.Joints[p.section]
		return []pulse{toRight(p.section+1, times(p.height, 8+r)), toLeft(p.section, times(p.height, r))}
	case p.section == 0:
		return []pulse{toRight(0, times(p.height, c.Ends[0]))}
	}
	r := c.Joints[p.section-1]
	return []pulse{toLeft(p.section-1, times(p.height, 8-r)), toRight(p.section, times(p.height, -r))}
}

// stepsOf moves all pulses of a fault tick by tick, and returns their steps in
// their order.
func stepsOf(c cable.Cable, f cable.Fault, window int) []cable.Step {
	height := big.NewRat(int64(f.Height)*unit, 1)
	running := []pulse{{f.Section, f.Offset, 1, 0, height}, {f.Section, f.Offset, -1, 0, height}}
	var l []cable.Step
	for tick := f.Tick + 1; tick <= f.Tick+window; tick++ {
		var next []pulse
		for _, p := range running {
			p.offset += p.direction
			if p.offset > 0 && p.offset < c.Sections[p.section].Delay {
				next = append(next, p)
				continue
			}
			s := cable.Step{Tick: tick, Boundary: p.section, Right: p.direction > 0, Hops: p.hops, Height: int(p.height.Num().Int64())}
			if s.Right {
				s.Boundary++
			}
			if !p.height.IsInt() {
				panic("not an integer")
			}
			l = append(l, s)
			for _, q := range parted(c, p) {
				if p.hops < 6 && q.height.Sign() != 0 {
					next = append(next, q)
				}
			}
		}
		running = next
	}
	slices.SortFunc(l, func(a, b cable.Step) int { return slices.Compare(keyOf(a), keyOf(b)) })
	return l
}

// keyOf returns what steps are ordered by.
func keyOf(s cable.Step) []int {
	right := 0
	if s.Right {
		right = 1
	}
	return []int{s.Tick, s.Boundary, right, s.Hops, s.Height}
}

// P6.2: steps are those of the definition.
func TestRunsOfMany(t *testing.T) {
	r := rand.New(rand.NewSource(621))
	most := 0
	for range 2000 {
		c := randomCable(r)
		f, window := randomFault(r, c), r.Intn([]int{20, 100, 1001}[r.Intn(3)])
		want := stepsOf(c, f, window)
		isRun(t, c, f, window, want)
		most = max(most, len(want))
	}
	if most < 200 {
		t.Errorf("a fault has at most %d steps", most)
	}
}
