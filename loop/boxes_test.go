package loop_test

import (
	"fmt"
	"math/rand"
	"testing"

	"bipole/api"
	"bipole/loop"
)

// double returns a loop with a plant of the degrees 1 and 2.
func double() loop.Loop {
	return of(loop.Poly{0, 1}, loop.Poly{0, 0, 10}, loop.Poly{1}, loop.Poly{1})
}

// box returns the box of intervals, each of which is two ends.
func box(ends ...[2]int) loop.Box {
	var b loop.Box
	for _, x := range ends {
		b = append(b, api.Interval{Low: x[0], High: x[1]})
	}
	return b
}

// P3.3
func TestCheckBox(t *testing.T) {
	for _, x := range []struct {
		l loop.Loop
		b loop.Box
		e api.Errno
	}{
		{shown(), box([2]int{1, 4}), api.OK},
		{shown(), box([2]int{-99, -1}), api.OK},
		{shown(), box([2]int{1, 100}), api.OK},
		{shown(), box([2]int{7, 7}), api.OK},
		{double(), box([2]int{0, 0}, [2]int{1, 1}), api.OK},
		{double(), box([2]int{-100, 100}, [2]int{1, 1}), api.OK},
		{double(), box([2]int{-8, 7}, [2]int{-16, -1}), api.OK},
		{double(), box([2]int{-1, 0}, [2]int{-100, -1}), api.OK},
		{double(), box([2]int{-64, 63}, [2]int{1, 2}), api.OK},
		{shown(), nil, api.ErrShape},
		{shown(), box([2]int{1, 2}, [2]int{1, 2}), api.ErrShape},
		{double(), box([2]int{101, 0}), api.ErrShape},
		{double(), box([2]int{101, 0}, [2]int{1, 1}, [2]int{1, 1}), api.ErrShape},
		{double(), box([2]int{2, 1}, [2]int{-101, 1}), api.ErrOrder},
		{double(), box([2]int{1, 101}, [2]int{2, 1}), api.ErrRange},
		{double(), box([2]int{0, 0}, [2]int{2, 1}), api.ErrOrder},
		{double(), box([2]int{-100, 100}, [2]int{100, -100}), api.ErrOrder},
		{shown(), box([2]int{1, 0}), api.ErrOrder},
		{shown(), box([2]int{0, 0}), api.ErrZero},
		{shown(), box([2]int{0, 1}), api.ErrZero},
		{shown(), box([2]int{-1, 0}), api.ErrZero},
		{shown(), box([2]int{-1, 1}), api.ErrZero},
		{double(), box([2]int{-100, 100}, [2]int{-100, 100}), api.ErrZero},
		{double(), box([2]int{-64, 64}, [2]int{1, 2}), api.ErrMany},
		{double(), box([2]int{0, 1}, [2]int{-100, 28}), api.ErrZero},
		{double(), box([2]int{-100, 100}, [2]int{-2, -1}), api.ErrMany},
		{double(), box([2]int{-100, 100}, [2]int{1, 100}), api.ErrMany},
		{of(loop.Poly{1}, loop.Poly{0, 1}, loop.Poly{100}, loop.Poly{1}), box([2]int{1, 2}), api.ErrLarge},
		{of(loop.Poly{1}, loop.Poly{0, 1}, loop.Poly{100}, loop.Poly{1}), box([2]int{-2, -1}), api.ErrLarge},
		{of(loop.Poly{1}, loop.Poly{0, 1}, loop.Poly{100}, loop.Poly{1}), box([2]int{1, 1}), api.OK},
		{of(loop.Poly{0, 1}, loop.Poly{0, 0, 1}, loop.Poly{50}, loop.Poly{1}), box([2]int{-2, 2}, [2]int{1, 3}), api.ErrLarge},
		{of(loop.Poly{0, 1}, loop.Poly{0, 0, 1}, loop.Poly{50}, loop.Poly{1}), box([2]int{-3, 2}, [2]int{1, 2}), api.ErrLarge},
		{of(loop.Poly{0, 1}, loop.Poly{0, 0, 1}, loop.Poly{50}, loop.Poly{1}), box([2]int{-3, 100}, [2]int{1, 3}), api.ErrMany},
		{of(loop.Poly{0, 1}, loop.Poly{0, 0, 1}, loop.Poly{50}, loop.Poly{1}), box([2]int{-2, 2}, [2]int{1, 2}), api.OK},
	} {
		what := fmt.Sprint(x.l, x.b)
		is(t, what, loop.CheckBox(x.l, x.b), x.e)
		member, found, e := loop.Certify(x.l, x.b)
		is(t, what+": Certify", e, x.e)
		if e != api.OK {
			isList(t, what+": Certify", member, nil)
			is(t, what+": Certify", found, false)
		}
	}
	for _, n := range beyond(-100, 100) {
		for _, b := range []loop.Box{box([2]int{n, 1}, [2]int{0, 0}), box([2]int{0, n}, [2]int{0, 0}), box([2]int{0, 0}, [2]int{n, 1}), box([2]int{0, 0}, [2]int{1, n}), box([2]int{n, n}, [2]int{2, 1})} {
			is(t, fmt.Sprint(b), loop.CheckBox(double(), b), api.ErrRange)
		}
	}
}

// P3.3
func TestCertify(t *testing.T) {
	for _, x := range []struct {
		what   string
		l      loop.Loop
		b      loop.Box
		member loop.Poly
	}{
		{"the example", shown(), box([2]int{1, 4}), loop.Poly{3}},
		{"a stable box", shown(), box([2]int{1, 2}), nil},
		{"one member that is not stable", shown(), box([2]int{3, 3}), loop.Poly{3}},
		{"one member that is stable", shown(), box([2]int{2, 2}), nil},
		{"all below 0", shown(), box([2]int{-9, -1}), loop.Poly{-9}},
		{"the plant is not asked", of(loop.Poly{50}, loop.Poly{-1, 2}, loop.Poly{1}, loop.Poly{1}), box([2]int{1, 2}), nil},
		{"the first coefficient decides", double(), box([2]int{-10, 0}, [2]int{1, 1}), loop.Poly{-10, 1}},
		{"the second coefficient decides", double(), box([2]int{-2, 2}, [2]int{1, 12}), loop.Poly{-2, 8}},
		{"the first coefficient decides before a lesser second one", double(), box([2]int{1, 5}, [2]int{9, 11}), loop.Poly{1, 11}},
		{"the last member", double(), box([2]int{0, 4}, [2]int{-5, -1}), nil},
		{"the last member alone", double(), box([2]int{0, 9}, [2]int{1, 9}), nil},
		{"the last members", double(), box([2]int{0, 10}, [2]int{1, 9}), loop.Poly{10, 1}},
		{"the last second coefficient", double(), box([2]int{-1, 0}, [2]int{1, 9}), loop.Poly{-1, 9}},
	} {
		member, found, e := loop.Certify(x.l, x.b)
		isList(t, x.what, member, x.member)
		is(t, x.what, found, x.member != nil)
		is(t, x.what, e, api.OK)
	}
}

// membersOf returns the members of a box of one or two intervals, the first one first.
func membersOf(b loop.Box) []loop.Poly {
	second := append(b, api.Interval{})[1]
	var l []loop.Poly
	for x := b[0].Low; x <= b[0].High; x++ {
		for y := second.Low; y <= second.High; y++ {
			l = append(l, loop.Poly{x, y}[:len(b)])
		}
	}
	return l
}

// firstOf returns the first member of a box for which a loop is not stable, by
// asking all of them.
func firstOf(l loop.Loop, b loop.Box) (loop.Poly, bool) {
	for _, member := range membersOf(b) {
		l.PlantNum = member
		if _, failed := bigTable(closedOf(l)); failed {
			return member, true
		}
	}
	return nil, false
}

// randomBox returns a box around the numerator of a plant.
func randomBox(r *rand.Rand, l loop.Loop) loop.Box {
	var b loop.Box
	for k, a := range l.PlantNum {
		low, high := a-r.Intn(4), a+r.Intn(4)
		if k == len(l.PlantNum)-1 && low <= 0 && high >= 0 {
			low, high = a, a
		}
		b = append(b, api.Interval{Low: low, High: high})
	}
	return b
}

// P3.3, P3.6, P4: what is certified, or the first member, is that of the definition.
func TestCertifyMany(t *testing.T) {
	r := rand.New(rand.NewSource(332))
	certified, refused := 0, 0
	for range 20000 {
		l := randomLoop(r)
		b := randomBox(r, l)
		member, found, e := loop.Certify(l, b)
		if e != api.OK {
			continue
		}
		want, wanted := firstOf(l, b)
		isList(t, fmt.Sprint(l, b), member, want)
		is(t, fmt.Sprint(l, b), found, wanted)
		if found {
			refused++
		} else {
			certified++
		}
	}
	if certified < 500 || refused < 500 {
		t.Errorf("%d boxes are certified and %d are not", certified, refused)
	}
}

// P3.3
func TestStrength(t *testing.T) {
	great := of(loop.Poly{100}, loop.Poly{-100, 100}, loop.Poly{1}, loop.Poly{1})
	for _, x := range []struct {
		what     string
		l        loop.Loop
		most     int
		strength int
		e        api.Errno
	}{
		{"the example", shown(), 20, 3, api.OK},
		{"just up to the factor", shown(), 3, 3, api.OK},
		{"up to one less", shown(), 2, 0, api.ErrNone},
		{"up to 1", shown(), 1, 0, api.ErrNone},
		{"the factor 1", with(func(l *loop.Loop) { l.PlantNum = loop.Poly{3} }), 1, 1, api.OK},
		{"a numerator below 0", with(func(l *loop.Loop) { l.PlantNum = loop.Poly{-1} }), 20, 1, api.OK},
		{"the factor 20", of(loop.Poly{1}, loop.Poly{0, 20}, loop.Poly{1}, loop.Poly{1}), 20, 20, api.OK},
		{"the factor 21", of(loop.Poly{1}, loop.Poly{0, 21}, loop.Poly{1}, loop.Poly{1}), 20, 0, api.ErrNone},
		{"all coefficients", of(loop.Poly{1, 1}, loop.Poly{0, 0, 10}, loop.Poly{1}, loop.Poly{1}), 20, 10, api.OK},
		{"the last coefficient", of(loop.Poly{0, 3}, loop.Poly{0, 0, 10}, loop.Poly{1}, loop.Poly{1}), 20, 4, api.OK},
		{"a numerator that is too great alone", great, 20, 2, api.OK},
		{"a closed loop that is too great", of(loop.Poly{50, -50}, loop.Poly{0, 50, 50}, loop.Poly{1}, loop.Poly{1}), 20, 1, api.OK},
		{"a closed loop that is too great before the factor", of(loop.Poly{0, -60}, loop.Poly{0, 59, 100}, loop.Poly{1}, loop.Poly{1}), 20, 0, api.ErrLarge},
		{"a closed loop that is too great between", of(loop.Poly{0, -40}, loop.Poly{30, 30, 90}, loop.Poly{1}, loop.Poly{1}), 20, 0, api.ErrLarge},
		{"a closed loop that is too great, up to the factor before", of(loop.Poly{0, -40}, loop.Poly{30, 30, 90}, loop.Poly{1}, loop.Poly{1}), 3, 0, api.ErrNone},
		{"too great at the factor", of(loop.Poly{51}, loop.Poly{0, 100}, loop.Poly{1}, loop.Poly{1}), 20, 0, api.ErrLarge},
		{"too great at the factor, below 0", of(loop.Poly{-51}, loop.Poly{0, 100}, loop.Poly{1}, loop.Poly{1}), 20, 0, api.ErrLarge},
		{"too great behind the greatest factor", of(loop.Poly{51}, loop.Poly{0, 100}, loop.Poly{1}, loop.Poly{1}), 1, 0, api.ErrNone},
		{"not stable at the end of the range", of(loop.Poly{50}, loop.Poly{0, 100}, loop.Poly{1}, loop.Poly{1}), 20, 2, api.OK},
	} {
		strength, e := loop.Strength(x.l, x.most)
		is(t, x.what, strength, x.strength)
		is(t, x.what, e, x.e)
	}
	for _, most := range append(beyond(1, 20), -1) {
		strength, e := loop.Strength(shown(), most)
		is(t, fmt.Sprint("up to ", most), strength, 0)
		is(t, fmt.Sprint("up to ", most), e, api.ErrRange)
	}
}

// P3.3: strengths are those of the definition.
func TestStrengthOfMany(t *testing.T) {
	r := rand.New(rand.NewSource(333))
	seen := map[api.Errno]int{}
	for range 20000 {
		l := randomLoop(r)
		if r.Intn(2) == 0 {
			l = of(l.PlantNum, randomPoly(r, len(l.PlantNum), 30), loop.Poly{1}, loop.Poly{1})
			l.PlantDen[len(l.PlantNum)] = 100
		}
		if loop.CheckLoop(l) != api.OK {
			continue
		}
		most := between(r, 1, 20)
		want, wanted := 0, api.ErrNone
		for factor := 1; factor <= most && wanted == api.ErrNone; factor++ {
			multiplied := l
			multiplied.PlantNum = plain(l.PlantNum, loop.Poly{factor})
			closed := closedOf(multiplied)
			if isLarge(closed) {
				wanted = api.ErrLarge
			} else if _, failed := bigTable(closed); failed {
				want, wanted = factor, api.OK
			}
		}
		strength, e := loop.Strength(l, most)
		is(t, fmt.Sprint(l, most), strength, want)
		is(t, fmt.Sprint(l, most), e, wanted)
		if want != 1 {
			seen[wanted]++
		}
	}
	for _, e := range []api.Errno{api.OK, api.ErrNone, api.ErrLarge} {
		if seen[e] < 100 {
			t.Errorf("only %d of the strengths above 1 have the result %d", seen[e], e)
		}
	}
}
