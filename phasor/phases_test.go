package phasor_test

import (
	"fmt"
	"testing"

	"bipole/api"
	"bipole/phasor"
)

const phase = 65536

// spoiled returns phases that have one part that is out of range.
func spoiled() []phasor.Phases {
	var l []phasor.Phases
	for _, n := range beyond(phase) {
		for i := range 3 {
			var a, b phasor.Phases
			a[i].A, b[i].B = n, n
			l = append(l, a, b)
		}
	}
	return l
}

// P1.3
func TestCheckPhases(t *testing.T) {
	for _, p := range []phasor.Phases{{}, {z(4, 0), z(-4, -4), z(0, 4)}, {z(phase, phase), z(-phase, -phase), z(phase, -phase)}} {
		same(t, fmt.Sprint(p), phasor.CheckPhases(p), api.OK)
	}
	for _, p := range spoiled() {
		same(t, fmt.Sprint(p), phasor.CheckPhases(p), api.ErrRange)
	}
}

// P1.3
func TestComponents(t *testing.T) {
	for _, x := range []struct {
		p        phasor.Phases
		c        [3]api.Eisen
		balanced bool
	}{
		{phasor.Phases{}, [3]api.Eisen{}, true},
		{phasor.Phases{z(4, 0), z(-4, -4), z(0, 4)}, [3]api.Eisen{z(0, 0), z(12, 0), z(0, 0)}, true},
		{phasor.Phases{z(4, 0), z(0, 4), z(-4, -4)}, [3]api.Eisen{z(0, 0), z(0, 0), z(12, 0)}, false},
		{phasor.Phases{z(1, 0), z(1, 0), z(1, 0)}, [3]api.Eisen{z(3, 0), z(0, 0), z(0, 0)}, false},
		{phasor.Phases{z(1, 0)}, [3]api.Eisen{z(1, 0), z(1, 0), z(1, 0)}, false},
		{phasor.Phases{z(0, 0), z(1, 0)}, [3]api.Eisen{z(1, 0), z(0, 1), z(-1, -1)}, false},
		{phasor.Phases{z(0, 0), z(0, 0), z(1, 0)}, [3]api.Eisen{z(1, 0), z(-1, -1), z(0, 1)}, false},
		{phasor.Phases{z(0, 0), z(0, 1)}, [3]api.Eisen{z(0, 1), z(-1, -1), z(1, 0)}, false},
		{phasor.Phases{z(5, 2), z(-3, 1), z(7, -4)}, [3]api.Eisen{z(9, -1), z(-7, -9), z(13, 16)}, false},
		{phasor.Phases{z(phase, -phase), z(-phase, -phase), z(0, 0)}, [3]api.Eisen{z(0, -2*phase), z(2*phase, -phase), z(phase, 0)}, false},
		{phasor.Phases{z(phase, -phase), z(-phase, 0), z(0, phase)}, [3]api.Eisen{z(0, 0), z(2*phase, -2*phase), z(phase, -phase)}, false},
		{phasor.Phases{z(phase, 0), z(-phase, -phase), z(0, phase)}, [3]api.Eisen{z(0, 0), z(3*phase, 0), z(0, 0)}, true},
		{phasor.Phases{z(5, 0), z(-3, -4), z(1, 4)}, [3]api.Eisen{z(3, 0), z(12, 0), z(0, 0)}, false},
		{phasor.Phases{z(phase, -phase), z(phase, -phase), z(phase, -phase)}, [3]api.Eisen{z(3*phase, -3*phase), z(0, 0), z(0, 0)}, false},
	} {
		what := fmt.Sprint("phases ", x.p)
		c, e := phasor.Components(x.p)
		same(t, what, c, x.c)
		same(t, what, e, api.OK)
		p, e := phasor.Restored(x.c)
		same(t, what+" restored", p, x.p)
		same(t, what+" restored", e, api.OK)
		balanced, e := phasor.Balanced(x.p)
		same(t, what+" balanced", balanced, x.balanced)
		same(t, what+" balanced", e, api.OK)
	}
}

// P1.3
func TestPhasesErrors(t *testing.T) {
	for _, p := range spoiled() {
		c, e := phasor.Components(p)
		same(t, "components", c, [3]api.Eisen{})
		same(t, "error of the components", e, api.ErrRange)
		balanced, e := phasor.Balanced(p)
		same(t, "balanced", balanced, false)
		same(t, "error of balanced", e, api.ErrRange)
		for _, x := range [][2]phasor.Phases{{p, {}}, {{}, p}, {p, p}} {
			power, double, e := phasor.Power(x[0], x[1])
			same(t, "power", power, api.Eisen{})
			same(t, "twice its real part", double, 0)
			same(t, "error of the power", e, api.ErrRange)
		}
	}
}

// P1.3
func TestRestoredErrors(t *testing.T) {
	for _, c := range [][3]api.Eisen{
		{z(1, 0)}, {z(0, 1)}, {z(0, 0), z(1, 0)}, {z(0, 0), z(0, 0), z(1, 0)}, {z(2, 0), z(1, 0)}, {z(1, 0), z(1, 0), z(-1, 0)}, {z(-1, 0)}, {z(3, 1)}, {z(3, 0), z(3, 0), z(1, 0)},
		{z(1, 0), z(0, 1), z(0, 1)}, {z(most, most), z(most, most), z(-most, most)}, {z(most, 0)},
		{z(3*phase+3, 0)}, {z(0, 3*phase+3)}, {z(-3*phase-3, 0)}, {z(0, 0), z(3*phase+3, 0)}, {z(0, 0), z(0, 0), z(0, -3*phase-3)},
	} {
		p, e := phasor.Restored(c)
		same(t, fmt.Sprint("phases of ", c), p, phasor.Phases{})
		same(t, fmt.Sprint("error of ", c), e, api.ErrForm)
	}
	for _, n := range beyond(most) {
		for i := range 3 {
			var a, b [3]api.Eisen
			a[i].A, b[i].B = n, n
			b[(i+1)%3].A = 1
			for _, c := range [][3]api.Eisen{a, b} {
				p, e := phasor.Restored(c)
				same(t, fmt.Sprint("phases of ", c), p, phasor.Phases{})
				same(t, fmt.Sprint("error of ", c), e, api.ErrRange)
			}
		}
	}
}

// P1.3: the components of numbers that are only just no phases.
func TestRestoredBeyondPhases(t *testing.T) {
	for i := range 3 {
		for _, x := range []api.Eisen{z(phase+1, 0), z(-phase-1, 0), z(0, phase+1), z(0, -phase-1), z(phase+1, phase+1)} {
			var l [3]api.Eisen
			l[i] = x
			var c [3]api.Eisen
			for k := range c {
				for m := range l {
					c[k] = plus(c[k], sixth(l[m], 2*k*m))
				}
			}
			p, e := phasor.Restored(c)
			same(t, fmt.Sprint("phases of ", l), p, phasor.Phases{})
			same(t, fmt.Sprint("error of ", l), e, api.ErrForm)
		}
	}
}

// P1.3: small components come from phases exactly if some small phases have them.
func TestRestoredOfSmallNumbers(t *testing.T) {
	phasesOf := map[[3]api.Eisen]phasor.Phases{}
	small := func(n int) api.Eisen { return z(n%7-3, n/7-3) }
	for n := range 49 * 49 * 49 {
		p := phasor.Phases{small(n % 49), small(n / 49 % 49), small(n / 49 / 49)}
		c := [3]api.Eisen{
			plus(plus(p[0], p[1]), p[2]),
			plus(plus(p[0], times(z(0, 1), p[1])), times(z(-1, -1), p[2])),
			plus(plus(p[0], times(z(-1, -1), p[1])), times(z(0, 1), p[2])),
		}
		phasesOf[c] = p
	}
	tiny := func(n int) api.Eisen { return z(n%3-1, n/3-1) }
	for n := range 9 * 9 * 9 {
		c := [3]api.Eisen{tiny(n % 9), tiny(n / 9 % 9), tiny(n / 81)}
		want, is := phasesOf[c]
		p, e := phasor.Restored(c)
		same(t, fmt.Sprint("phases of ", c), p, want)
		same(t, fmt.Sprint("error of ", c), e == api.OK, is)
	}
}

// P1.3
func TestPower(t *testing.T) {
	u := phasor.Phases{z(4, 0), z(-4, -4), z(0, 4)}
	top := phasor.Phases{z(phase, -phase), z(phase, -phase), z(phase, -phase)}
	for _, x := range []struct {
		u, i   phasor.Phases
		power  api.Eisen
		double int
	}{
		{phasor.Phases{}, u, z(0, 0), 0}, {u, phasor.Phases{}, z(0, 0), 0},
		{u, phasor.Phases{z(1, 0), z(-1, -1), z(0, 1)}, z(12, 0), 24},
		{u, phasor.Phases{z(0, 1), z(1, 0), z(-1, -1)}, z(-12, -12), -12},
		{phasor.Phases{z(0, 1)}, phasor.Phases{z(1, 0)}, z(0, 1), -1},
		{phasor.Phases{z(1, 0)}, phasor.Phases{z(0, 1)}, z(-1, -1), -1},
		{phasor.Phases{z(0, 0), z(2, 5)}, phasor.Phases{z(0, 0), z(3, -1)}, z(3, 17), -11},
		{phasor.Phases{z(0, 0), z(0, 0), z(2, 5)}, phasor.Phases{z(9, 9), z(9, 9), z(3, -1)}, z(3, 17), -11},
		{top, top, z(9*phase*phase, 0), 18 * phase * phase},
	} {
		power, double, e := phasor.Power(x.u, x.i)
		what := fmt.Sprint("power of ", x.u, " and ", x.i)
		same(t, what, power, x.power)
		same(t, what+": twice its real part", double, x.double)
		same(t, what, e, api.OK)
	}
}
