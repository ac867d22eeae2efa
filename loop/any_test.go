package loop_test

import (
	"fmt"
	"math"
	"math/rand"
	"slices"
	"testing"

	"bipole/api"
	"bipole/loop"
)

// anyInt returns an integer, often one at the end of a range.
func anyInt(r *rand.Rand) int {
	ends := []int{0, 1, 2, 4, 8, 20, 24, 64, 100, 1000, math.MaxInt32, math.MaxInt}
	n := ends[r.Intn(len(ends))] + r.Intn(3) - 1
	if r.Intn(4) == 0 {
		n = -n - 1
	}
	return n
}

// anyList returns a list of up to 100 elements.
func anyList[T any](r *rand.Rand, element func(*rand.Rand) T) []T {
	l := make([]T, r.Intn([]int{2, 5, 10, 100}[r.Intn(4)]))
	for i := range l {
		l[i] = element(r)
	}
	return l
}

// anyPoly returns a polynomial, or coefficients from anywhere.
func anyPoly(r *rand.Rand) loop.Poly {
	if r.Intn(3) == 0 {
		return anyList(r, anyInt)
	}
	return randomPoly(r, r.Intn(5), 100)
}

// anyLoop returns a loop that has one polynomial or all from anywhere, or none.
func anyLoop(r *rand.Rand) loop.Loop {
	l := randomLoop(r)
	switch r.Intn(7) {
	case 0:
		l.PlantNum = anyPoly(r)
	case 1:
		l.PlantDen = anyPoly(r)
	case 2:
		l.ControllerNum = anyPoly(r)
	case 3:
		l.ControllerDen = anyPoly(r)
	case 4:
		l = of(anyPoly(r), anyPoly(r), anyPoly(r), anyPoly(r))
	}
	return l
}

func anyInterval(r *rand.Rand) api.Interval { return api.Interval{Low: anyInt(r), High: anyInt(r)} }

func anyRow(r *rand.Rand) loop.Row { return anyList(r, anyInt) }

func anyByte(r *rand.Rand) byte { return "pn \n01-"[r.Intn(7)] }

// P1: every function returns, whatever its arguments are.
func TestAnyArguments(t *testing.T) {
	r := rand.New(rand.NewSource(10))
	for range 20000 {
		p, q, l := anyPoly(r), anyPoly(r), anyLoop(r)
		ratio := api.Ratio{Num: anyInt(r), Den: anyInt(r)}
		loop.CheckPoly(p)
		loop.Degree(p)
		loop.Value(p, api.Gauss{Re: anyInt(r), Im: anyInt(r)})
		loop.Sum(p, q)
		loop.Product(p, q)
		loop.Table(p)
		loop.Stable(p)
		loop.CheckTable(p, anyList(r, anyRow))
		loop.Scaled(p, ratio)
		loop.Within(p, ratio)
		loop.Stepped(p, anyList(r, anyInt), anyInt(r))
		loop.CheckLoop(l)
		loop.Closed(l)
		loop.CheckBox(l, anyList(r, anyInterval))
		loop.Certify(l, anyList(r, anyInterval))
		loop.CheckBox(l, randomBox(r, l))
		loop.Certify(l, randomBox(r, l))
		loop.Strength(l, anyInt(r))
		loop.Response(l)
		loop.Print(l)
	}
}

// P1: every function returns, whatever its arguments are.
func TestAnyRings(t *testing.T) {
	r := rand.New(rand.NewSource(11))
	for range 20000 {
		ring := loop.Ring(anyList(r, anyInt))
		if r.Intn(2) == 0 {
			for i := range ring {
				ring[i] = r.Intn(len(ring))
			}
		}
		loop.CheckRing(ring)
		loop.Made(anyInt(r), anyInt(r), anyInt(r))
		loop.Basin(ring, anyInt(r))
		loop.Locks(ring, anyInt(r), anyInt(r))
		loop.CheckBasin(ring, anyInt(r), anyList(r, anyInt))
		loop.CheckBasin(ring, r.Intn(len(ring)+1), slices.Repeat([]int{anyInt(r)}, len(ring)))
	}
}

// P1: every function returns, whatever its arguments are.
func TestAnyTexts(t *testing.T) {
	r := rand.New(rand.NewSource(12))
	for range 5000 {
		s := anyList(r, func(r *rand.Rand) byte { return byte(r.Intn(256)) })
		loop.Parse(string(s))
		loop.Parse("plantnum " + string(s))
		loop.Parse("plantnum 1\nplantden " + string(anyList(r, anyByte)))
		bad := []byte(text)
		bad[r.Intn(len(bad))] = anyByte(r)
		loop.Parse(string(bad))
		loop.Parse(string(bad[:r.Intn(len(bad))]))
	}
}

// P3.1 to P3.3: results share no memory with arguments or with each other, and
// arguments are not changed.
func TestMemoryOfPolys(t *testing.T) {
	for what, f := range map[string]func(a, b loop.Poly) loop.Poly{
		"Sum":             func(a, b loop.Poly) loop.Poly { c, _ := loop.Sum(a, b); return c },
		"Sum the other":   func(a, b loop.Poly) loop.Poly { c, _ := loop.Sum(b, a); return c },
		"Product":         func(a, b loop.Poly) loop.Poly { c, _ := loop.Product(a, b); return c },
		"Scaled":          func(a, _ loop.Poly) loop.Poly { c, _ := loop.Scaled(a, api.Ratio{Num: 1, Den: 1}); return c },
		"Scaled by 3":     func(a, _ loop.Poly) loop.Poly { c, _ := loop.Scaled(a, api.Ratio{Num: 3, Den: 1}); return c },
		"Table":           func(a, _ loop.Poly) loop.Poly { c, _ := loop.Table(a); return loop.Poly(c[0]) },
		"Stepped":         func(a, b loop.Poly) loop.Poly { c, _ := loop.Stepped(a, b, 0); return c },
		"Stepped further": func(a, b loop.Poly) loop.Poly { c, _ := loop.Stepped(a, b, 3); return c },
		"Closed":          func(a, b loop.Poly) loop.Poly { c, _ := loop.Closed(of(b, a, loop.Poly{1}, loop.Poly{1})); return c },
		"Parse":           func(_, _ loop.Poly) loop.Poly { l, _, _ := loop.Parse(text); return l.PlantNum },
		"Certify": func(a, b loop.Poly) loop.Poly {
			c, _, _ := loop.Certify(of(b, a, loop.Poly{1}, loop.Poly{1}), box([2]int{9, 9}, [2]int{9, 9}))
			return c
		},
	} {
		a, b := loop.Poly{1, 2, 5, 7}[:3], loop.Poly{1, 3, 8}[:2]
		c := f(a, b)
		if len(c) == 0 {
			t.Errorf("%s has no result", what)
		}
		clear(c)
		c = append(c, 9, 9, 9, 9)
		isList(t, what+": the first argument", a[:4], loop.Poly{1, 2, 5, 7})
		isList(t, what+": the second argument", b[:3], loop.Poly{1, 3, 8})
	}
}

// P3.2: rows of a table share no memory.
func TestMemoryOfRows(t *testing.T) {
	want := []loop.Row{{1, 1, 1, 4}, {3, 3, 15}, {36, 216}}
	for i := range want {
		rows, _ := loop.Table(loop.Poly{1, 1, 1, 4})
		isTable(t, "a table", rows, want)
		whole := rows[i][:cap(rows[i])]
		for k := range whole {
			whole[k] = -7
		}
		for k := range rows {
			if k != i {
				isList(t, fmt.Sprint("the row ", k, " after ", i, " is changed"), rows[k], want[k])
			}
		}
	}
	rows := []loop.Row{{1, 1, 1, 4}, {3, 3, 15}, {36, 216}}
	loop.CheckTable(loop.Poly{1, 1, 1, 4}, rows)
	isTable(t, "a table that was checked", rows, want)
}

// P3.3 to P3.5: loops, boxes and rings are not changed, and not kept.
func TestMemoryOfLoops(t *testing.T) {
	l, b := double(), box([2]int{-2, 2}, [2]int{1, 12})
	first, _, _ := loop.Certify(l, b)
	clear(first)
	again, _, _ := loop.Certify(l, b)
	isList(t, "a member after another one is changed", again, loop.Poly{-2, 8})
	loop.Strength(l, 20)
	loop.Response(l)
	loop.Print(l)
	isLoop(t, "the loop", l, double())
	is(t, "the box", fmt.Sprint(b), fmt.Sprint(box([2]int{-2, 2}, [2]int{1, 12})))
	r, numbers := loop.Ring{1, 2, 2, 2, 3, 0}, []int{2, 1, 0, 1, 2, 3}
	loop.Basin(r, 2)
	loop.Locks(r, 5, 2)
	loop.CheckBasin(r, 2, numbers)
	isList(t, "the ring", r, loop.Ring{1, 2, 2, 2, 3, 0})
	isList(t, "the numbers", numbers, []int{2, 1, 0, 1, 2, 3})
}
