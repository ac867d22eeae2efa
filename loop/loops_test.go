package loop_test

import (
	"fmt"
	"math/rand"
	"testing"

	"bipole/api"
	"bipole/loop"
)

// asked is what the functions of a loop return for it.
func asked(l loop.Loop) map[string]api.Errno {
	_, e1 := loop.Closed(l)
	_, e2 := loop.Response(l)
	_, _, e3 := loop.Certify(l, nil)
	_, e4 := loop.Strength(l, 0)
	_, e5 := loop.Print(l)
	return map[string]api.Errno{"CheckLoop": loop.CheckLoop(l), "Closed": e1, "Response": e2, "CheckBox": loop.CheckBox(l, nil), "Certify": e3, "Strength": e4, "Print": e5}
}

// badLoop is a loop with an error.
type badLoop struct {
	what string
	l    loop.Loop
	e    api.Errno
}

// badLoops returns loops with each error, most of them with later errors, too.
func badLoops() []badLoop {
	linear, square, cube := loop.Poly{1, 2}, loop.Poly{1, 2, 3}, loop.Poly{1, 2, 3, 4}
	l := []badLoop{
		{"nothing", loop.Loop{}, api.ErrEmpty},
		{"a plant of the degree 3", of(linear, cube, linear, linear), api.ErrLimit},
		{"a plant of the degree 4", of(loop.Poly{1}, loop.Poly{0, 0, 0, 0, 1}, loop.Poly{1}, loop.Poly{1}), api.ErrLimit},
		{"a controller of the degree 3", of(linear, square, linear, cube), api.ErrLimit},
		{"a controller of the degree 3, with a wrong shape", of(square, square, square, cube), api.ErrLimit},
		{"a plant of the degree 3, with wrong shapes", of(cube, cube, square, linear), api.ErrLimit},
		{"a plant of the degree 0", of(loop.Poly{1}, loop.Poly{1}, loop.Poly{1}, linear), api.ErrShape},
		{"a plant of the degrees 1", of(linear, linear, linear, linear), api.ErrShape},
		{"a plant of the degrees 2 and 1", of(square, linear, linear, linear), api.ErrShape},
		{"a plant of the degrees 2", of(square, square, linear, linear), api.ErrShape},
		{"a plant of the degrees 4 and 2", of(loop.Poly{0, 0, 0, 0, 1}, square, linear, linear), api.ErrShape},
		{"a controller of the degrees 1 and 0", of(linear, square, linear, loop.Poly{1}), api.ErrShape},
		{"a controller of the degrees 2 and 1", of(linear, square, square, linear), api.ErrShape},
		{"a controller of the degrees 3 and 2", of(linear, square, cube, square), api.ErrShape},
		{"a wrong shape of what is too large", of(loop.Poly{1}, loop.Poly{100, 100}, loop.Poly{100, 100}, loop.Poly{100}), api.ErrShape},
		{"too large at the end", of(loop.Poly{1}, loop.Poly{0, 51}, loop.Poly{1}, loop.Poly{2}), api.ErrLarge},
		{"too large at the end, below 0", of(loop.Poly{1}, loop.Poly{0, 51}, loop.Poly{1}, loop.Poly{-2}), api.ErrLarge},
		{"too large a constant", of(loop.Poly{1}, loop.Poly{100, 1}, loop.Poly{1}, loop.Poly{1}), api.ErrLarge},
		{"too large a constant, below 0", of(loop.Poly{-1}, loop.Poly{-100, 1}, loop.Poly{1}, loop.Poly{1}), api.ErrLarge},
		{"too large between", of(loop.Poly{1, 11}, loop.Poly{1, 1, 1}, loop.Poly{0, 9, 9}, loop.Poly{1, 0, 1}), api.ErrLarge},
	}
	for _, bad := range badPolys() {
		what := fmt.Sprint(bad.p)
		l = append(l,
			badLoop{"PlantNum " + what, of(bad.p, nil, cube, cube), bad.e},
			badLoop{"PlantDen " + what, of(cube, bad.p, nil, cube), bad.e},
			badLoop{"ControllerNum " + what, of(cube, cube, bad.p, nil), bad.e},
			badLoop{"ControllerDen " + what, of(cube, cube, cube, bad.p), bad.e})
	}
	return l
}

// P3.3, P3.5: each function asks for the loop before all else.
func TestBadLoops(t *testing.T) {
	for _, x := range badLoops() {
		for name, e := range asked(x.l) {
			is(t, name+" of "+x.what, e, x.e)
		}
		closed, _ := loop.Closed(x.l)
		isList(t, "Closed of "+x.what, closed, nil)
		response, _ := loop.Response(x.l)
		is(t, "Response of "+x.what, response, [4]complex128{})
		member, found, _ := loop.Certify(x.l, loop.Box{{Low: 1, High: 1}})
		isList(t, "Certify of "+x.what, member, nil)
		is(t, "Certify of "+x.what, found, false)
		s, _ := loop.Print(x.l)
		is(t, "Print of "+x.what, s, "")
	}
}

// P3.3
func TestClosed(t *testing.T) {
	for _, x := range []struct {
		what     string
		l        loop.Loop
		closed   loop.Poly
		response [4]complex128
	}{
		{"L", shown(), loop.Poly{0, 2}, [4]complex128{2, 2i, -2, -2i}},
		{"a controller of the degree 1", of(loop.Poly{3}, loop.Poly{-1, 2}, loop.Poly{1, 1}, loop.Poly{0, 2}), loop.Poly{3, 1, 4}, [4]complex128{8, -1 + 1i, 6, -1 - 1i}},
		{"a controller of the degrees 0 and 1", of(loop.Poly{3}, loop.Poly{-1, 2}, loop.Poly{5}, loop.Poly{0, 2}), loop.Poly{15, -2, 4}, [4]complex128{17, 11 - 2i, 21, 11 + 2i}},
		{"the degree 4", of(loop.Poly{1, 2}, loop.Poly{1, 0, 3}, loop.Poly{0, 0, -5}, loop.Poly{-1, 1, -7}), loop.Poly{-1, 1, -15, -7, -21}, [4]complex128{-43, -7 + 8i, -31, -7 - 8i}},
		{"large on the way", of(loop.Poly{-40}, loop.Poly{20, 0, 1}, loop.Poly{10}, loop.Poly{20, 1}), loop.Poly{0, 20, 20, 1}, [4]complex128{41, -20 + 19i, -1, -20 - 19i}},
		{"at the ends of the range", of(loop.Poly{50, -100}, loop.Poly{50, 0, 100}, loop.Poly{1}, loop.Poly{1}), loop.Poly{100, -100, 100}, [4]complex128{100, -100i, 300, 100i}},
		{"at the other ends of the range", of(loop.Poly{-50}, loop.Poly{-50, -100}, loop.Poly{1}, loop.Poly{1}), loop.Poly{-100, -100}, [4]complex128{-200, -100 - 100i, 0, -100 + 100i}},
	} {
		is(t, x.what, loop.CheckLoop(x.l), api.OK)
		closed, e := loop.Closed(x.l)
		isList(t, x.what, closed, x.closed)
		is(t, x.what, e, api.OK)
		response, e := loop.Response(x.l)
		is(t, x.what, response, x.response)
		is(t, x.what, e, api.OK)
	}
}

// P3.3: closed loops and responses are those of the definitions.
func TestClosedOfMany(t *testing.T) {
	r := rand.New(rand.NewSource(331))
	large := 0
	for range 5000 {
		l := randomLoop(r)
		if r.Intn(4) == 0 {
			l.ControllerDen[len(l.ControllerDen)-1] = between(r, 10, 20)
		}
		want, wanted := closedOf(l), api.OK
		if isLarge(want) {
			want, wanted = nil, api.ErrLarge
			large++
		}
		var values [4]complex128
		for k, z := range []complex128{1, 1i, -1, -1i} {
			values[k] = at(want, z)
		}
		closed, e := loop.Closed(l)
		isList(t, fmt.Sprint(l), closed, want)
		is(t, fmt.Sprint(l), e, wanted)
		is(t, fmt.Sprint(l), loop.CheckLoop(l), wanted)
		response, e := loop.Response(l)
		is(t, fmt.Sprint(l), response, values)
		is(t, fmt.Sprint(l), e, wanted)
	}
	if large < 250 || large > 4000 {
		t.Errorf("%d of 5000 loops are too large", large)
	}
}
