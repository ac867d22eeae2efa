package cable

import (
	"cmp"
	"iter"
	"slices"

	"bipole/api"
	"bipole/check"
)

// Run returns the steps of the waves of a fault.
func Run(c Cable, f Fault, window int) ([]Step, api.Errno) {
	if e := check.First(CheckFault(c, f), checkWindow(window)); e != api.OK {
		return nil, e
	}
	return c.steps(f, window), api.OK
}

func checkWindow(window int) api.Errno {
	return check.Range(window, 0, MaxWindow)
}

// steps returns the steps of a fault in a window, in their order.
func (c Cable) steps(f Fault, window int) []Step {
	var l []Step
	for w := range c.waves(f) {
		if w.Tick <= f.Tick+window {
			l = append(l, w.Step)
		}
	}
	slices.SortFunc(l, Step.compare)
	return l
}

// compare returns -1 for a step that stands before another one.
func (s Step) compare(other Step) int {
	return cmp.Or(
		cmp.Compare(s.Tick, other.Tick),
		cmp.Compare(s.Boundary, other.Boundary),
		cmp.Compare(direction(s.Right), direction(other.Right)),
		cmp.Compare(s.Hops, other.Hops),
		cmp.Compare(s.Height, other.Height))
}

// direction returns by how much the boundaries of a wave increase.
func direction(right bool) int {
	if right {
		return 1
	}
	return -1
}

// wave is a wave of a cable, with the step by which it reaches its next boundary.
type wave struct {
	Step
	cable Cable
}

// waves visits both waves that begin at a fault, and all that come from them.
func (c Cable) waves(f Fault) iter.Seq[wave] {
	return func(yield func(wave) bool) {
		running := c.begun(f)
		for len(running) > 0 && yield(running[0]) {
			running = append(running[1:], running[0].met()...)
		}
	}
}

// begun returns the waves that begin at a fault.
func (c Cable) begun(f Fault) []wave {
	left := Step{Tick: f.Tick + f.Offset, Boundary: f.Section, Height: f.Height * Unit}
	right := left
	right.Tick = f.Tick + c.Sections[f.Section].Delay - f.Offset
	right.Boundary++
	right.Right = true
	return []wave{{Step: left, cable: c}, {Step: right, cable: c}}
}

// met returns the waves that a wave becomes at its boundary.
func (w wave) met() []wave {
	if w.Hops == Hops {
		return nil
	}
	var l []wave
	on, back := w.eighths()
	if on != 0 {
		l = append(l, w.next(w.Right, on))
	}
	if back != 0 {
		l = append(l, w.next(!w.Right, back))
	}
	return l
}

// eighths returns the heights of the waves that run on and back from the boundary
// of a wave, in eighths of its own. A joint has for a wave to the left the
// opposite of its factor.
func (w wave) eighths() (on, back int) {
	switch w.Boundary {
	case 0:
		return 0, w.cable.Ends[0]
	case len(w.cable.Sections):
		return 0, w.cable.Ends[1]
	}
	factor := w.cable.Joints[w.Boundary-1] * direction(w.Right)
	return Eighths + factor, factor
}

// next returns the wave that leaves the boundary of a wave, with so many eighths
// of its height.
func (w wave) next(right bool, eighths int) wave {
	boundary := w.Boundary + direction(right)
	section := w.cable.Sections[min(w.Boundary, boundary)]
	return wave{
		Step: Step{
			Tick:     w.Tick + section.Delay,
			Boundary: boundary,
			Right:    right,
			Hops:     w.Hops + 1,
			Height:   w.Height * eighths / Eighths,
		},
		cable: w.cable,
	}
}
