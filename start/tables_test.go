package start_test

import (
	"fmt"
	"math"
	"math/rand"
	"slices"
	"testing"

	"bipole/api"
	"bipole/start"
)

// rows returns rows, each of a heat and a power.
func rows(l ...[2]int) []start.Row {
	var result []start.Row
	for _, x := range l {
		result = append(result, start.Row{Heat: x[0], Power: x[1]})
	}
	return result
}

// table is the one of the chapter's examples.
func table() []start.Row { return rows([2]int{0, 1000}, [2]int{400, 500}, [2]int{480, 0}) }

// longTable returns a table of so many rows.
func longTable(n int) []start.Row {
	var l []start.Row
	for i := range n {
		l = append(l, start.Row{Heat: 10 * i, Power: 100 - i})
	}
	return l
}

// badTables returns tables with each error, most of them with later errors, too.
func badTables() map[api.Errno][][]start.Row {
	none := [2]int{-1, -1}
	first := [2]int{0, 500}
	l := map[api.Errno][][]start.Row{
		api.ErrEmpty: {nil, {}},
		api.ErrMany:  {longTable(17), make([]start.Row, 17), slices.Repeat(rows(none), 1000)},
		api.ErrOrder: {table()[1:], rows([2]int{1, 500}), rows([2]int{16384, 0}, none), rows(first, first), rows(first, [2]int{0, 499}), rows(first, [2]int{1, 500}), rows(first, [2]int{1, 501}, none), rows(first, [2]int{5, 400}, [2]int{5, 300}), rows(first, [2]int{5, 400}, [2]int{4, 300}, none), rows(first, [2]int{5, 400}, [2]int{6, 400}), rows(first, [2]int{5, 400}, [2]int{6, 450}), rows(first, [2]int{16384, 400}, [2]int{0, 300}), rows([2]int{0, 0}, [2]int{1, 0}), rows([2]int{0, 0}, [2]int{1, 1000})},
	}
	for _, n := range beyond(0, 16384) {
		l[api.ErrRange] = append(l[api.ErrRange], rows([2]int{n, 500}), rows([2]int{n, -1}), rows(first, [2]int{n, 500}), rows(first, [2]int{n, 400}, [2]int{0, 0}), rows([2]int{n, 500}, first, first))
	}
	for _, n := range beyond(0, 1000) {
		l[api.ErrRange] = append(l[api.ErrRange], rows([2]int{0, n}), rows([2]int{5, n}), rows(first, [2]int{0, n}), rows(first, [2]int{5, n}, first), rows([2]int{0, n}, first))
	}
	return l
}

// eachBadTable calls a function with tables and with the error that they have.
func eachBadTable(f func(what string, l []start.Row, e api.Errno)) {
	for e, all := range badTables() {
		for _, l := range all {
			f(brief("the table ", l), l, e)
		}
	}
}

// P8.4
func TestCheckTable(t *testing.T) {
	eachBadTable(func(what string, l []start.Row, e api.Errno) {
		is(t, what, start.CheckTable(l), e)
	})
	for _, l := range [][]start.Row{table(), longTable(16), rows([2]int{0, 0}), rows([2]int{0, 1000}), rows([2]int{0, 1}, [2]int{1, 0}), rows([2]int{0, 1000}, [2]int{16384, 999})} {
		is(t, fmt.Sprint(l), start.CheckTable(l), api.OK)
	}
}

// isDerated fails a test if the power that a table permits is not the expected one.
func isDerated(t *testing.T, l []start.Row, x float32, want int, wanted api.Errno) {
	t.Helper()
	what := brief(x, " by ", l)
	power, e := start.Derated(l, x)
	is(t, what, power, want)
	is(t, what, e, wanted)
}

// P8.4: the last row whose heat is not above it decides.
func TestDerated(t *testing.T) {
	eachBadTable(func(_ string, l []start.Row, e api.Errno) {
		for _, x := range []float32{0, 25, -1, float32(math.NaN())} {
			isDerated(t, l, x, 0, e)
		}
	})
	for e, l := range badHeats(16384) {
		for _, x := range l {
			isDerated(t, table(), x, 0, e)
		}
	}
	for n, want := range map[int]int{0: 1000, 1: 1000, 399: 1000, 400: 500, 401: 500, 479: 500, 480: 0, 481: 0, 16384: 0} {
		isDerated(t, table(), heat(n), want, api.OK)
	}
	isDerated(t, table(), float32(math.Copysign(0, -1)), 1000, api.OK)
	isDerated(t, table()[:1], 1024, 1000, api.OK)
	for n := range 200 {
		isDerated(t, longTable(16), heat(n), 100-min(n/10, 15), api.OK)
	}
	isDerated(t, rows([2]int{0, 1000}, [2]int{16384, 999}), 1024, 999, api.OK)
	isDerated(t, rows([2]int{0, 1000}, [2]int{16384, 999}), heat(16383), 1000, api.OK)
}

// areHeld fails a test if the powers that are held, or the heats after them, are not
// the expected ones.
func areHeld(t *testing.T, c start.Cooling, l []start.Row, from float32, wanted, powers []int, heats []float32, want api.Errno) {
	t.Helper()
	what := brief(c, " from ", from, " on by ", wanted, " held by ", l)
	gotPowers, gotHeats, e := start.Held(c, l, from, wanted)
	isList(t, what, gotPowers, powers)
	isList(t, what, gotHeats, heats)
	is(t, what, e, want)
}

// P8.4: the cooling, the table, the heat and the powers are asked for in this order.
func TestBadHeld(t *testing.T) {
	no := func(c start.Cooling, l []start.Row, from float32, wanted []int, e api.Errno) {
		t.Helper()
		areHeld(t, c, l, from, wanted, nil, nil, e)
	}
	eachBadCooling(func(_ string, c start.Cooling, e api.Errno) {
		no(c, table(), 20, nil, e)
		no(c, table()[1:], -1, []int{-1}, e)
		no(c, nil, float32(math.NaN()), make([]int, 257), e)
	})
	eachBadTable(func(_ string, l []start.Row, e api.Errno) {
		no(oil, l, 20, nil, e)
		no(oil, l, -1, []int{-1}, e)
		no(oil, l, float32(math.NaN()), make([]int, 257), e)
	})
	for e, l := range badHeats(640) {
		for _, x := range l {
			no(oil, table(), x, nil, e)
			no(oil, table(), x, []int{1000, -1}, e)
			no(oil, table(), x, make([]int, 257), e)
		}
	}
	for e, l := range badPowers() {
		for _, wanted := range l {
			no(oil, table(), 20, wanted, e)
			no(oil, rows([2]int{0, 1000}), 40, wanted, e)
		}
	}
	no(oil, rows([2]int{0, 1000}), 38, []int{1000, 1000}, api.ErrBand)
	no(oil, rows([2]int{0, 656}), 40, []int{1000}, api.ErrBand)
	no(cooling(0, 1024, 0, 999), table(), 0, []int{1000}, api.ErrBand)
}

// P8.4: the heat before each power decides what the table permits.
func TestHeld(t *testing.T) {
	areHeld(t, oil, table(), 24.9375, []int{1000, 1000}, []int{1000, 500}, []float32{28.1875, 29.0625}, api.OK)
	areHeld(t, oil, table(), 24.9375, []int{1000, 400, 1000}, []int{1000, 400, 500}, heatsOf(451, 459, 472), api.OK)
	areHeld(t, oil, table(), 24.9375, nil, nil, nil, api.OK)
	areHeld(t, oil, table(), 40, []int{1000, 1, 0}, []int{0, 0, 0}, heatsOf(600, 565, 534), api.OK)
	areHeld(t, oil, rows([2]int{0, 1000}, [2]int{640, 656}), 40, []int{1000}, nil, nil, api.ErrBand)
	areHeld(t, oil, rows([2]int{0, 1000}, [2]int{640, 655}), 40, []int{1000, 2}, []int{655, 2}, heatsOf(640, 600), api.OK)
	areHeld(t, cooling(0, 1024, 0, 1500), table(), 0, []int{399, 1, 600, 600, 7}, []int{399, 1, 500, 0, 0}, heatsOf(399, 400, 900, 900, 900), api.OK)
	areHeld(t, cooling(0, 1024, 0, 1400), table(), heat(399), slices.Repeat([]int{1000}, 256), append([]int{1000}, make([]int, 255)...), slices.Repeat(heatsOf(1399), 256), api.OK)
}

// randomTable returns a table with heats near some, whose greatest power is at most
// one.
func randomTable(r *rand.Rand, near, most int) []start.Row {
	var l []start.Row
	x := start.Row{Heat: 0, Power: most}
	for range between(r, 1, 16) {
		l = append(l, x)
		x.Heat += between(r, 1, 20)
		if len(l) == 1 {
			x.Heat += near
		}
		x.Power -= between(r, 1, max(most/4, 1))
		if x.Power < 0 {
			break
		}
	}
	return l
}

// P8.4: powers that are held, and the heats after them, are those of the definition.
func TestHeldOfMany(t *testing.T) {
	r := rand.New(rand.NewSource(845))
	seen := map[string]int{}
	for range 5000 {
		c := randomCooling(r)
		l := randomTable(r, r.Intn(c.Limit+1), r.Intn(1001))
		from := r.Intn(c.Limit + 1)
		wanted := make([]int, r.Intn(10))
		for i := range wanted {
			wanted[i] = r.Intn(1001)
		}
		var powers []int
		var heats []float32
		e, lessened := api.OK, false
		n := from
		for _, power := range wanted {
			permitted, _ := start.Derated(l, heat(n))
			lessened = lessened || permitted < power
			power = min(power, permitted)
			if n = nextOf(c, n, power); n > c.Limit {
				powers, heats, e = nil, nil, api.ErrBand
				break
			}
			powers, heats = append(powers, power), append(heats, heat(n))
		}
		areHeld(t, c, l, heat(from), wanted, powers, heats, e)
		seen[fmt.Sprint(e, lessened)]++
	}
	if seen["0 true"] < 500 || seen["0 false"] < 200 || seen["30 true"] < 200 {
		t.Errorf("the results are %v", seen)
	}
}

// P8.4: the power that a table permits is that of the definition.
func TestDeratedOfMany(t *testing.T) {
	r := rand.New(rand.NewSource(846))
	for range 3000 {
		l := randomTable(r, r.Intn(900), r.Intn(1001))
		n := r.Intn(1200)
		want := 0
		for _, x := range slices.Backward(l) {
			if x.Heat <= n {
				want = x.Power
				break
			}
		}
		isDerated(t, l, heat(n), want, api.OK)
	}
}
