package cable_test

import (
	"fmt"
	"math/big"
	"math/rand"
	"slices"
	"testing"

	"bipole/api"
	"bipole/cable"
)

// P6.1
func TestCheckCable(t *testing.T) {
	eachBadCable(func(what string, c cable.Cable, e api.Errno) {
		is(t, what, cable.CheckCable(c), e)
	})
	for _, c := range []cable.Cable{shown(), single(1, 1, -8, 8), single(100000, 64, 8, -8), longest(8), longest(-8), longest(0), {Sections: sections([2]int{1, 1}), Joints: []int{}}} {
		is(t, fmt.Sprint(c), cable.CheckCable(c), api.OK)
	}
	bad := shown()
	bad.Joints, bad.Ends = []int{9}, [2]int{9, 9}
	is(t, "bad factors", cable.CheckCable(bad), api.ErrRange)
	bad.Sections[1].Length, bad.Joints = 0, nil
	is(t, "a bad section", cable.CheckCable(bad), api.ErrRange)
	bad.Sections[1].Length = 1
	is(t, "a bad shape", cable.CheckCable(bad), api.ErrShape)
}

// P6.1
func TestLength(t *testing.T) {
	eachBadCable(func(what string, c cable.Cable, want api.Errno) {
		l, e := cable.Length(c)
		is(t, what, l, [2]int{})
		is(t, what, e, want)
	})
	for _, x := range []struct {
		c    cable.Cable
		want [2]int
	}{
		{shown(), [2]int{4000, 10}}, {single(1, 1, 0, 0), [2]int{1, 1}}, {single(7, 64, 8, 8), [2]int{7, 64}}, {longest(8), [2]int{600000, 384}},
		{cable.Cable{Sections: sections([2]int{1, 2}, [2]int{30, 40}, [2]int{500, 6}), Joints: []int{0, 0}}, [2]int{531, 48}},
	} {
		l, e := cable.Length(x.c)
		is(t, fmt.Sprint(x.c), l, x.want)
		is(t, fmt.Sprint(x.c), e, api.OK)
	}
}

// P6.1: both the sections and the joints are in the opposite order.
func TestReversed(t *testing.T) {
	eachBadCable(func(what string, c cable.Cable, want api.Errno) {
		d, e := cable.Reversed(c)
		isCable(t, what, d, cable.Cable{})
		is(t, what, e, want)
	})
	for _, x := range [][2]cable.Cable{
		{shown(), {Sections: sections([2]int{3000, 6}, [2]int{1000, 4}), Joints: []int{-2}, Ends: [2]int{0, 4}}},
		{single(5, 3, 2, -7), single(5, 3, -7, 2)},
		{
			{Sections: sections([2]int{1, 2}, [2]int{3, 4}, [2]int{5, 6}, [2]int{7, 8}), Joints: []int{8, 0, -3}, Ends: [2]int{-1, 1}},
			{Sections: sections([2]int{7, 8}, [2]int{5, 6}, [2]int{3, 4}, [2]int{1, 2}), Joints: []int{3, 0, -8}, Ends: [2]int{1, -1}},
		},
	} {
		for i, c := range x {
			d, e := cable.Reversed(c)
			isCable(t, fmt.Sprint(c), d, x[1-i])
			is(t, fmt.Sprint(c), e, api.OK)
		}
	}
}

// notSplit fails a test if a cable is split or has another error.
func notSplit(t *testing.T, c cable.Cable, section, ticks int, want api.Errno) {
	t.Helper()
	what := fmt.Sprintf("%.200v in %d after %d", c, section, ticks)
	d, e := cable.Split(c, section, ticks)
	isCable(t, what, d, cable.Cable{})
	is(t, what, e, want)
}

// P6.1: the section is asked for before the ticks, and these before the result.
func TestNotSplit(t *testing.T) {
	eachBadCable(func(_ string, c cable.Cable, e api.Errno) {
		notSplit(t, c, 0, 1, e)
		notSplit(t, c, -1, 0, e)
	})
	for _, n := range beyond(0, 1) {
		notSplit(t, shown(), n, 1, api.ErrUnknown)
		notSplit(t, shown(), n, 0, api.ErrUnknown)
	}
	notSplit(t, longest(0), 6, 0, api.ErrUnknown)
	for section, delay := range []int{4, 6} {
		for _, n := range beyond(1, delay-1) {
			notSplit(t, shown(), section, n, api.ErrRange)
		}
	}
	notSplit(t, single(5, 1, 0, 0), 0, 0, api.ErrRange)
	notSplit(t, single(5, 1, 0, 0), 0, 1, api.ErrRange)
	short := cable.Cable{Sections: sections(slices.Repeat([][2]int{{1, 9}}, 6)...), Joints: make([]int, 5)}
	notSplit(t, short, 5, 9, api.ErrRange)
	notSplit(t, short, 5, 8, api.ErrMany)
	notSplit(t, longest(0), 0, 63, api.ErrMany)
	short.Sections, short.Joints = short.Sections[:5], short.Joints[:4]
	for ticks := range 8 {
		notSplit(t, short, 4, ticks+1, api.ErrShort)
	}
	notSplit(t, single(15, 64, 0, 0), 0, 4, api.ErrShort)
	notSplit(t, single(63, 64, 0, 0), 0, 1, api.ErrShort)
}

// P6.1: the first section's length is rounded down.
func TestSplit(t *testing.T) {
	c := shown()
	three := cable.Cable{Sections: sections([2]int{10, 4}, [2]int{20, 5}, [2]int{31, 6}), Joints: []int{-7, 8}, Ends: [2]int{3, -4}}
	for _, x := range []struct {
		c              cable.Cable
		section, ticks int
		want           cable.Cable
	}{
		{c, 1, 2, cable.Cable{Sections: sections([2]int{1000, 4}, [2]int{1000, 2}, [2]int{2000, 4}), Joints: []int{2, 0}, Ends: c.Ends}},
		{c, 0, 3, cable.Cable{Sections: sections([2]int{750, 3}, [2]int{250, 1}, [2]int{3000, 6}), Joints: []int{0, 2}, Ends: c.Ends}},
		{three, 0, 1, cable.Cable{Sections: sections([2]int{2, 1}, [2]int{8, 3}, [2]int{20, 5}, [2]int{31, 6}), Joints: []int{0, -7, 8}, Ends: three.Ends}},
		{three, 1, 4, cable.Cable{Sections: sections([2]int{10, 4}, [2]int{16, 4}, [2]int{4, 1}, [2]int{31, 6}), Joints: []int{-7, 0, 8}, Ends: three.Ends}},
		{three, 2, 5, cable.Cable{Sections: sections([2]int{10, 4}, [2]int{20, 5}, [2]int{25, 5}, [2]int{6, 1}), Joints: []int{-7, 8, 0}, Ends: three.Ends}},
		{single(16, 64, 0, 0), 0, 4, cable.Cable{Sections: sections([2]int{1, 4}, [2]int{15, 60}), Joints: []int{0}}},
		{single(2, 3, 1, 2), 0, 2, cable.Cable{Sections: sections([2]int{1, 2}, [2]int{1, 1}), Joints: []int{0}, Ends: [2]int{1, 2}}},
		{single(100000, 64, 0, 0), 0, 63, cable.Cable{Sections: sections([2]int{98437, 63}, [2]int{1563, 1}), Joints: []int{0}}},
	} {
		what := fmt.Sprint(x.c, " in ", x.section, " after ", x.ticks)
		d, e := cable.Split(x.c, x.section, x.ticks)
		isCable(t, what, d, x.want)
		is(t, what, e, api.OK)
	}
	five := longest(3)
	five.Sections, five.Joints = five.Sections[:5], five.Joints[:4]
	d, e := cable.Split(five, 4, 32)
	is(t, "six sections", len(d.Sections), 6)
	is(t, "six sections", e, api.OK)
}

// placeOf returns the place after ticks from the end A, by the definition.
func placeOf(c cable.Cable, ticks *big.Rat) *big.Rat {
	place, rest := new(big.Rat), new(big.Rat).Set(ticks)
	for _, s := range c.Sections {
		delay := big.NewRat(int64(s.Delay), 1)
		if rest.Cmp(delay) <= 0 {
			part := big.NewRat(int64(s.Length), int64(s.Delay))
			return place.Add(place, part.Mul(part, rest))
		}
		place.Add(place, big.NewRat(int64(s.Length), 1))
		rest.Sub(rest, delay)
	}
	panic("not a place of the cable")
}

// P6.1
func TestPlace(t *testing.T) {
	eachBadCable(func(what string, c cable.Cable, want api.Errno) {
		for _, ticks := range []int{0, -1} {
			p, e := cable.Place(c, ticks)
			is(t, what, p, api.Ratio{})
			is(t, what, e, want)
		}
	})
	for _, n := range beyond(0, 10) {
		p, e := cable.Place(shown(), n)
		is(t, fmt.Sprint(n), p, api.Ratio{})
		is(t, fmt.Sprint(n), e, api.ErrRange)
	}
	for ticks, want := range []int{0, 250, 500, 750, 1000, 1500, 2000, 2500, 3000, 3500, 4000} {
		p, e := cable.Place(shown(), ticks)
		is(t, fmt.Sprint(ticks), p, ratio(want, 1))
		is(t, fmt.Sprint(ticks), e, api.OK)
	}
	p, e := cable.Place(longest(0), 384)
	is(t, "the end of the longest cable", p, ratio(600000, 1))
	is(t, "the end of the longest cable", e, api.OK)
	p, _ = cable.Place(longest(0), 383)
	is(t, "near the end of the longest cable", p, ratio(1196875, 2))
	p, _ = cable.Place(single(5, 6, 0, 0), 4)
	is(t, "a place between metres", p, ratio(10, 3))
}

// P6.1: places are those of the definition.
func TestPlacesOfMany(t *testing.T) {
	r := rand.New(rand.NewSource(611))
	for range 300 {
		c := randomCable(r)
		l, _ := cable.Length(c)
		for ticks := range l[1] + 1 {
			p, e := cable.Place(c, ticks)
			is(t, fmt.Sprint(c, " after ", ticks), p, lowest(placeOf(c, big.NewRat(int64(ticks), 1))))
			is(t, fmt.Sprint(c, " after ", ticks), e, api.OK)
		}
	}
}
