package loop_test

import (
	"fmt"
	"math"
	"math/rand"
	"slices"
	"testing"

	"bipole/api"
	"bipole/loop"
)

// chain returns the ring of n phases, each of which is followed by the next one,
// and the last one by itself.
func chain(n int) loop.Ring {
	r := make(loop.Ring, n)
	for i := range r {
		r[i] = min(i+1, n-1)
	}
	return r
}

// badRing is a ring with an error.
type badRing struct {
	r loop.Ring
	e api.Errno
}

// badRings returns rings with each error, most of them with later errors, too.
func badRings() []badRing {
	l := []badRing{
		{nil, api.ErrEmpty}, {loop.Ring{}, api.ErrEmpty},
		{make(loop.Ring, 65), api.ErrMany}, {chain(65), api.ErrMany}, {append(loop.Ring{-1}, make(loop.Ring, 64)...), api.ErrMany},
		{loop.Ring{2, 0}, api.ErrRange}, {loop.Ring{0, 2}, api.ErrRange}, {append(chain(63), 64), api.ErrRange},
	}
	for _, n := range beyond(0, 2) {
		l = append(l, badRing{loop.Ring{n, 0, 0}, api.ErrRange}, badRing{loop.Ring{0, 1, n}, api.ErrRange})
	}
	return l
}

// P3.4: each function asks for the ring before all else.
func TestBadRings(t *testing.T) {
	for _, x := range badRings() {
		what := fmt.Sprint(x.r)
		is(t, what, loop.CheckRing(x.r), x.e)
		basin, e := loop.Basin(x.r, -1)
		isList(t, what, basin, nil)
		is(t, what, e, x.e)
		n, e := loop.Locks(x.r, -1, -1)
		is(t, what, n, 0)
		is(t, what, e, x.e)
		is(t, what, loop.CheckBasin(x.r, -1, nil), x.e)
		_, e = loop.Basin(x.r, 0)
		is(t, what, e, x.e)
		is(t, what, loop.CheckBasin(x.r, 0, []int{0}), x.e)
	}
	for _, r := range []loop.Ring{{0}, {1, 0}, {0, 0, 0}, {2, 2, 2}, chain(64), make(loop.Ring, 64)} {
		is(t, fmt.Sprint(r), loop.CheckRing(r), api.OK)
	}
}

// P3.4
func TestUnknownPhases(t *testing.T) {
	r := loop.Ring{1, 2, 0}
	for _, phase := range beyond(0, 2) {
		what := fmt.Sprint("the phase ", phase)
		ring, e := loop.Made(3, phase, 0)
		isList(t, what, ring, nil)
		is(t, what, e, api.ErrUnknown)
		basin, e := loop.Basin(r, phase)
		isList(t, what, basin, nil)
		is(t, what, e, api.ErrUnknown)
		for _, pair := range [][2]int{{0, phase}, {phase, 0}, {phase, phase}} {
			n, e := loop.Locks(r, pair[0], pair[1])
			is(t, what, n, 0)
			is(t, what, e, api.ErrUnknown)
		}
		is(t, what, loop.CheckBasin(r, phase, []int{1, 2}), api.ErrUnknown)
		is(t, what, loop.CheckBasin(r, phase, []int{0, 0, 0}), api.ErrUnknown)
	}
}

// P3.4
func TestMade(t *testing.T) {
	for _, x := range []struct {
		n, phase, most int
		r              loop.Ring
	}{
		{6, 2, 1, loop.Ring{1, 2, 2, 2, 3, 0}},
		{5, 0, 2, loop.Ring{0, 0, 0, 0, 0}},
		{6, 0, 2, loop.Ring{0, 0, 0, 5, 0, 0}},
		{7, 3, 1, loop.Ring{1, 2, 3, 3, 3, 4, 5}},
		{8, 7, 2, loop.Ring{7, 7, 0, 5, 6, 7, 7, 7}},
		{8, 0, 3, loop.Ring{0, 0, 0, 0, 7, 0, 0, 0}},
		{8, 0, 64, loop.Ring{0, 0, 0, 0, 0, 0, 0, 0}},
		{1, 0, 1, loop.Ring{0}}, {1, 0, 64, loop.Ring{0}}, {2, 0, 1, loop.Ring{0, 0}}, {2, 1, 64, loop.Ring{1, 1}}, {3, 1, 1, loop.Ring{1, 1, 1}},
		{4, 3, 1, loop.Ring{3, 2, 3, 3}},
	} {
		r, e := loop.Made(x.n, x.phase, x.most)
		isList(t, fmt.Sprint(x.n, x.phase, x.most), r, x.r)
		is(t, fmt.Sprint(x.n, x.phase, x.most), e, api.OK)
	}
	for _, n := range append(beyond(1, 64), -1) {
		r, e := loop.Made(n, -1, 0)
		isList(t, fmt.Sprint(n, " phases"), r, nil)
		is(t, fmt.Sprint(n, " phases"), e, api.ErrRange)
		r, e = loop.Made(3, 1, n)
		isList(t, fmt.Sprint("by ", n), r, nil)
		is(t, fmt.Sprint("by ", n), e, api.ErrRange)
	}
}

// P3.4, P3.6: a ring that steps towards a phase goes the shorter way, upwards if
// both are as long; and each phase falls into it.
func TestMadeOfAll(t *testing.T) {
	for n := 1; n <= 64; n++ {
		for _, phase := range []int{0, n / 3, n / 2, n - 1} {
			for _, most := range []int{1, 2, 3, n/2 + 1, 64} {
				r, e := loop.Made(n, phase, most)
				is(t, fmt.Sprint(n, phase, most), e, api.OK)
				for from, next := range r {
					is(t, fmt.Sprint(n, phase, most, from), next, towards(n, phase, most, from))
				}
				basin, _ := loop.Basin(r, phase)
				is(t, fmt.Sprint("basin of ", n, phase, most), len(basin), n)
			}
		}
	}
}

// towards is the definition of a step towards a phase, written once more: phase
// by phase.
func towards(n, phase, most, from int) int {
	up, down := from, from
	for {
		if up == phase {
			break
		}
		if down == phase {
			n = -n
			break
		}
		up, down = (up+1)%n, (down+n-1)%n
	}
	at := from
	for range most {
		switch {
		case at == phase:
			return at
		case n > 0:
			at = (at + 1) % n
		default:
			at = (at - n - 1) % -n
		}
	}
	return at
}

// P3.4
func TestFalling(t *testing.T) {
	for _, x := range []struct {
		r           loop.Ring
		from, phase int
		steps       int
		basin       []int
		e           api.Errno
	}{
		{loop.Ring{1, 2, 2, 2, 3, 0}, 5, 2, 3, []int{0, 1, 2, 3, 4, 5}, api.OK},
		{loop.Ring{1, 2, 2, 2, 3, 0}, 4, 2, 2, []int{0, 1, 2, 3, 4, 5}, api.OK},
		{loop.Ring{1, 2, 2, 2, 3, 0}, 0, 5, 0, []int{5}, api.ErrNone},
		{loop.Ring{1, 2, 2, 2, 3, 0}, 5, 0, 1, []int{0, 5}, api.OK},
		{loop.Ring{1, 0, 0}, 0, 2, 0, []int{2}, api.ErrNone},
		{loop.Ring{1, 0, 0, 3}, 2, 1, 2, []int{0, 1, 2}, api.OK},
		{loop.Ring{1, 0, 0, 3}, 3, 0, 0, []int{0, 1, 2}, api.ErrNone},
		{loop.Ring{1, 1}, 0, 0, 0, []int{0}, api.OK},
		{loop.Ring{1, 2, 0}, 1, 1, 0, []int{0, 1, 2}, api.OK},
		{loop.Ring{1, 2, 0}, 1, 0, 2, []int{0, 1, 2}, api.OK},
		{loop.Ring{0}, 0, 0, 0, []int{0}, api.OK},
	} {
		what := fmt.Sprint(x.r, x.from, x.phase)
		n, e := loop.Locks(x.r, x.from, x.phase)
		is(t, what, n, x.steps)
		is(t, what, e, x.e)
		basin, e := loop.Basin(x.r, x.phase)
		isList(t, what, basin, x.basin)
		is(t, what, e, api.OK)
	}
	n, e := loop.Locks(chain(64), 0, 63)
	is(t, "the longest way", n, 63)
	is(t, "the longest way", e, api.OK)
	around := append(chain(64)[:63], 0)
	n, e = loop.Locks(around, 20, 19)
	is(t, "the longest way around", n, 63)
	is(t, "the longest way around", e, api.OK)
}

// P3.4
func TestCheckBasin(t *testing.T) {
	r := loop.Ring{1, 2, 2, 2, 3, 0}
	for _, x := range []struct {
		r       loop.Ring
		phase   int
		numbers []int
		e       api.Errno
	}{
		{r, 2, []int{2, 1, 0, 1, 2, 3}, api.OK},
		{r, 2, []int{9, 1, 0, 7, 8, 1000}, api.OK},
		{r, 2, []int{math.MaxInt - 1, 1, 0, 1, math.MaxInt, math.MaxInt}, api.OK},
		{r, 2, []int{1, 1, 0, 1, 2, 3}, api.ErrProof},
		{r, 2, []int{2, 1, 0, 1, 2, 2}, api.ErrProof},
		{r, 2, []int{2, 1, 0, 1, 2, 1}, api.ErrProof},
		{r, 2, []int{2, 1, 0, 2, 2, 3}, api.ErrProof},
		{r, 2, []int{2, 1, 1, 2, 3, 3}, api.ErrProof},
		{r, 2, []int{2, 1, 0, 0, 2, 3}, api.ErrProof},
		{r, 2, []int{2, 1, -1, 1, 2, 3}, api.ErrProof},
		{r, 2, []int{2, 1, -1, 0, 2, 3}, api.ErrProof},
		{r, 2, []int{1, -1, 0, 1, 2, 3}, api.ErrProof},
		{r, 2, []int{2, 1, 0, math.MinInt, 2, 3}, api.ErrProof},
		{r, 2, make([]int, 6), api.ErrProof},
		{r, 1, []int{1, 0, 1, 2, 3, 4}, api.ErrProof},
		{loop.Ring{1, 0}, 0, []int{0, 1}, api.OK},
		{loop.Ring{1, 0}, 0, []int{0, 0}, api.ErrProof},
		{loop.Ring{1, 0}, 1, []int{1, 0}, api.OK},
		{loop.Ring{1, 1}, 0, []int{0, 1}, api.ErrProof},
		{loop.Ring{0, 0, 2}, 0, []int{0, 1, 5}, api.ErrProof},
		{loop.Ring{0}, 0, []int{0}, api.OK},
		{loop.Ring{0}, 0, []int{1}, api.ErrProof},
		{loop.Ring{0}, 0, []int{-1}, api.ErrProof},
		{r, 2, nil, api.ErrShape},
		{r, 2, []int{2, 1, 0, 1, 2}, api.ErrShape},
		{r, 2, []int{2, 1, 0, 1, 2, 3, 4}, api.ErrShape},
		{r, 2, make([]int, 7), api.ErrShape},
		{loop.Ring{0}, 0, []int{}, api.ErrShape},
	} {
		is(t, fmt.Sprint(x.r, x.phase, x.numbers), loop.CheckBasin(x.r, x.phase, x.numbers), x.e)
	}
}

// P3.4: ways and basins are those of the definitions; and numbers prove exactly
// if a basin is all phases.
func TestRingsOfMany(t *testing.T) {
	random := rand.New(rand.NewSource(342))
	proved := 0
	for range 3000 {
		r := make(loop.Ring, 1+random.Intn(64))
		for i := range r {
			r[i] = random.Intn(len(r))
			if random.Intn(4) > 0 {
				r[i] = r[i] * i / len(r)
			}
		}
		phase := random.Intn(min(3, len(r)))
		steps := make([]int, len(r))
		for i := range steps {
			steps[i] = -1
		}
		steps[phase] = 0
		for range r {
			for i, next := range r {
				if steps[i] < 0 && steps[next] >= 0 {
					steps[i] = steps[next] + 1
				}
			}
		}
		var basin []int
		for from, n := range steps {
			want := api.ErrNone
			if n >= 0 {
				want = api.OK
				basin = append(basin, from)
			}
			got, e := loop.Locks(r, from, phase)
			is(t, fmt.Sprint(r, from, phase), got, max(n, 0))
			is(t, fmt.Sprint(r, from, phase), e, want)
		}
		l, e := loop.Basin(r, phase)
		isList(t, fmt.Sprint(r, phase), l, basin)
		is(t, fmt.Sprint(r, phase), e, api.OK)
		want := api.OK
		if slices.Contains(steps, -1) {
			want = api.ErrProof
		} else {
			proved++
		}
		is(t, fmt.Sprint(r, phase, steps), loop.CheckBasin(r, phase, steps), want)
	}
	if proved < 300 || proved > 2700 {
		t.Errorf("%d of 3000 rings fall into a phase", proved)
	}
}
