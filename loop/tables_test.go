package loop_test

import (
	"fmt"
	"math"
	"math/big"
	"math/rand"
	"slices"
	"testing"

	"bipole/api"
	"bipole/loop"
)

// tables is polynomials with their tables, and whether they are stable.
var tables = []struct {
	p      loop.Poly
	rows   []loop.Row
	stable bool
}{
	{loop.Poly{7}, nil, true},
	{loop.Poly{-100}, nil, true},
	{loop.Poly{0, 1}, []loop.Row{{0, 1}}, true},
	{loop.Poly{-1, 2}, []loop.Row{{-1, 2}}, true},
	{loop.Poly{99, -100}, []loop.Row{{99, -100}}, true},
	{loop.Poly{1, 1}, []loop.Row{{1, 1}}, false},
	{loop.Poly{-1, 1}, []loop.Row{{-1, 1}}, false},
	{loop.Poly{2, -1}, []loop.Row{{2, -1}}, false},
	{loop.Poly{1, 0, 2}, []loop.Row{{1, 0, 2}, {0, 3}}, true},
	{loop.Poly{2, 3, 1}, []loop.Row{{2, 3, 1}}, false},
	{loop.Poly{1, 2, 1}, []loop.Row{{1, 2, 1}}, false},
	{loop.Poly{-1, 0, -2}, []loop.Row{{-1, 0, -2}, {0, 3}}, true},
	{loop.Poly{1, 3, 2}, []loop.Row{{1, 3, 2}, {3, 3}}, false},
	{loop.Poly{-1, -1, 2}, []loop.Row{{-1, -1, 2}, {-3, 3}}, false},
	{loop.Poly{1, -4, 2}, []loop.Row{{1, -4, 2}, {-4, 3}}, false},
	{loop.Poly{1, 1, 1, 4}, []loop.Row{{1, 1, 1, 4}, {3, 3, 15}, {36, 216}}, true},
	{loop.Poly{1, 5, 0, 2}, []loop.Row{{1, 5, 0, 2}, {10, -5, 3}}, false},
	{loop.Poly{1, 2, 3, 4, 5}, []loop.Row{{1, 2, 3, 4, 5}, {6, 12, 18, 24}, {180, 360, 540}, {129600, 259200}}, true},
	{loop.Poly{0, 0, 0, 0, 100}, []loop.Row{{0, 0, 0, 0, 100}, {0, 0, 0, 10000}, {0, 0, 100000000}, {0, 10000000000000000}}, true},
	{loop.Poly{0, 0, 100, 99, 100}, []loop.Row{{0, 0, 100, 99, 100}, {0, 10000, 9900, 10000}, {100000000, 99000000, 100000000}}, false},
	{loop.Poly{-99, 0, 0, 0, 100}, []loop.Row{{-99, 0, 0, 0, 100}, {0, 0, 0, 199}, {0, 0, 39601}, {0, 1568239201}}, true},
}

// P3.2
func TestTable(t *testing.T) {
	for _, x := range tables {
		what := fmt.Sprint(x.p)
		rows, e := loop.Table(x.p)
		isTable(t, "table of "+what, rows, x.rows)
		is(t, "table of "+what, e, api.OK)
		stable, e := loop.Stable(x.p)
		is(t, "stable "+what, stable, x.stable)
		is(t, "stable "+what, e, api.OK)
		want := api.ErrProof
		if x.stable {
			want = api.OK
		}
		is(t, "proof of "+what, loop.CheckTable(x.p, x.rows), want)
	}
}

// P3.2: no other table is a proof.
func TestCheckTable(t *testing.T) {
	p := loop.Poly{1, 1, 1, 4}
	for _, rows := range [][]loop.Row{
		nil, {{}}, {{1, 1, 1, 4}}, {{1, 1, 1, 4}, {3, 3, 15}}, {{3, 3, 15}, {36, 216}}, {{1, 1, 1, 4}, {36, 216}}, {{36, 216}, {3, 3, 15}, {1, 1, 1, 4}},
		{{1, 1, 1, 4}, {3, 3, 15}, {36, 216}, nil}, {{1, 1, 1, 4}, {3, 3, 15}, {36, 216}, {45360}}, {{1, 1, 1, 4}, {3, 3, 15}, {36, 216}, {36, 216}},
		{{1, 1, 1, 4}, {1, 1, 5}, {1, 6}}, {{1, 1, 1, 4}, {3, 3, 15}, {36, 216, 0}}, {{1, 1, 1, 4}, {3, 3, 15}, {36}}, {{1, 1, 1, 4, 0}, {3, 3, 15}, {36, 216}},
		{{1, 1, 1, 4}, {3, 3, 15}, {35, 216}}, {{1, 1, 1, 4}, {3, 4, 15}, {36, 216}}, {{1, 1, 2, 4}, {3, 3, 15}, {36, 216}}, {{1, 1, 1, 4}, {3, 3, 15}, {36, -216}},
	} {
		is(t, fmt.Sprint(rows), loop.CheckTable(p, rows), api.ErrProof)
	}
	is(t, "the table", loop.CheckTable(p, []loop.Row{{1, 1, 1, 4}, {3, 3, 15}, {36, 216}}), api.OK)
	is(t, "an empty table of the degree 0", loop.CheckTable(loop.Poly{3}, []loop.Row{}), api.OK)
	is(t, "a row of the degree 0", loop.CheckTable(loop.Poly{3}, []loop.Row{{3}}), api.ErrProof)
	is(t, "an empty row of the degree 0", loop.CheckTable(loop.Poly{3}, []loop.Row{nil}), api.ErrProof)
	is(t, "a table that does not fail, of one that does", loop.CheckTable(loop.Poly{2, 3, 1}, []loop.Row{{1, 3, 2}}), api.ErrProof)
}

// bigTable is the definition of the table, written once more with integers of
// any size, and whether a row of it fails.
func bigTable(p loop.Poly) (rows [][]*big.Int, failed bool) {
	var row []*big.Int
	for _, a := range p {
		row = append(row, big.NewInt(int64(a)))
	}
	for len(row) > 1 {
		rows = append(rows, row)
		m := len(row) - 1
		if row[0].CmpAbs(row[m]) >= 0 {
			return rows, true
		}
		var next []*big.Int
		for i := range m {
			up, down := new(big.Int).Mul(row[m], row[i+1]), new(big.Int).Mul(row[0], row[m-1-i])
			next = append(next, up.Sub(up, down))
		}
		row = next
	}
	return rows, false
}

// P3.2: tables are those of the definition; no number of them is too large.
func TestTablesOfMany(t *testing.T) {
	r := rand.New(rand.NewSource(321))
	long := 0
	for range 20000 {
		p := randomPoly(r, r.Intn(5), 100)
		if r.Intn(2) == 0 {
			p[len(p)-1] = 100
		}
		want, failed := bigTable(p)
		rows, _ := loop.Table(p)
		is(t, fmt.Sprint("table of ", p), fmt.Sprint(rows), fmt.Sprint(want))
		stable, _ := loop.Stable(p)
		is(t, fmt.Sprint("stable ", p), stable, !failed)
		if len(rows) == 4 {
			long++
		}
	}
	if long < 1000 {
		t.Errorf("only %d tables have four rows", long)
	}
}

// P3.2, P4: a polynomial is stable exactly if all roots, as floats find them, are
// inside of the unit circle.
func TestStableOfMany(t *testing.T) {
	r := rand.New(rand.NewSource(322))
	count := 0
	for range 20000 {
		p := randomPoly(r, 1+r.Intn(4), 20)
		if r.Intn(2) == 0 {
			p[len(p)-1] = between(r, 40, 100)
		}
		root := greatestRoot(p)
		if math.Abs(root-1) < 1e-4 || math.IsNaN(root) {
			continue
		}
		stable, _ := loop.Stable(p)
		is(t, fmt.Sprint(p, " with a root at ", root), stable, root < 1)
		if stable {
			count++
		}
	}
	if count < 5000 || count > 15000 {
		t.Errorf("%d of 20000 polynomials are stable", count)
	}
}

// P3.2
func TestScaled(t *testing.T) {
	for _, x := range []struct {
		p        loop.Poly
		num, den int
		scaled   loop.Poly
		e        api.Errno
	}{
		{loop.Poly{-1, 2}, 2, 1, loop.Poly{-1, 1}, api.OK},
		{loop.Poly{1, 1, 1}, 2, 3, loop.Poly{4, 6, 9}, api.OK},
		{loop.Poly{1, 1, 1}, 3, 2, loop.Poly{9, 6, 4}, api.OK},
		{loop.Poly{1, 2}, 1, 1, loop.Poly{1, 2}, api.OK},
		{loop.Poly{6, -4}, 1, 1, loop.Poly{3, -2}, api.OK},
		{loop.Poly{-6, 0, -4}, 1, 1, loop.Poly{-3, 0, -2}, api.OK},
		{loop.Poly{7}, 3, 4, loop.Poly{1}, api.OK},
		{loop.Poly{-7}, 4, 3, loop.Poly{-1}, api.OK},
		{loop.Poly{0, 0, -9}, 1, 3, loop.Poly{0, 0, -1}, api.OK},
		{loop.Poly{25, 1}, 4, 1, loop.Poly{100, 1}, api.OK},
		{loop.Poly{0, 25, 1}, 4, 1, loop.Poly{0, 100, 1}, api.OK},
		{loop.Poly{1, 0, 0, 0, 1}, 3, 1, loop.Poly{81, 0, 0, 0, 1}, api.OK},
		{loop.Poly{1, 0, 0, 0, -1}, 1, 3, loop.Poly{1, 0, 0, 0, -81}, api.OK},
		{loop.Poly{100, 0, 0, 0, 1}, 1, 4, loop.Poly{25, 0, 0, 0, 64}, api.OK},
		{loop.Poly{26, 1}, 4, 1, nil, api.ErrLarge},
		{loop.Poly{-26, 1}, 4, 1, nil, api.ErrLarge},
		{loop.Poly{1, 0, 0, 0, 1}, 4, 1, nil, api.ErrLarge},
		{loop.Poly{1, 0, 0, 0, 1}, 1, 4, nil, api.ErrLarge},
		{loop.Poly{1, 51}, 1, 2, nil, api.ErrLarge},
	} {
		what := fmt.Sprint(x.p, " by ", x.num, "/", x.den)
		scaled, e := loop.Scaled(x.p, api.Ratio{Num: x.num, Den: x.den})
		isList(t, what, scaled, x.scaled)
		is(t, what, e, x.e)
		_, e = loop.Within(x.p, api.Ratio{Num: x.den, Den: x.num})
		is(t, what+": Within", e, x.e)
	}
}

// P3.2
func TestWithin(t *testing.T) {
	for _, x := range []struct {
		p        loop.Poly
		num, den int
		within   bool
	}{
		{loop.Poly{-1, 2}, 1, 1, true}, {loop.Poly{-1, 2}, 1, 2, false}, {loop.Poly{-1, 2}, 2, 3, true}, {loop.Poly{-1, 2}, 1, 3, false}, {loop.Poly{-1, 2}, 4, 1, true},
		{loop.Poly{-2, 1}, 2, 1, false}, {loop.Poly{-2, 1}, 3, 1, true}, {loop.Poly{2, 1}, 3, 2, false}, {loop.Poly{-3, 2}, 4, 3, false}, {loop.Poly{-5, 4}, 4, 3, true},
		{loop.Poly{5}, 1, 4, true}, {loop.Poly{0, 0, 1}, 1, 4, true}, {loop.Poly{1, 0, 4}, 1, 2, false}, {loop.Poly{1, 0, 4}, 3, 4, true}, {loop.Poly{1, 1, 1}, 1, 1, false}, {loop.Poly{1, 1, 1}, 4, 3, true},
	} {
		within, e := loop.Within(x.p, api.Ratio{Num: x.num, Den: x.den})
		is(t, fmt.Sprint(x.p, " within ", x.num, "/", x.den), within, x.within)
		is(t, fmt.Sprint(x.p, " within ", x.num, "/", x.den), e, api.OK)
	}
}

// P3.2: a ratio is from 1 to 4 above and below, in lowest terms.
func TestRatios(t *testing.T) {
	large := loop.Poly{100, 0, 0, 0, 99}
	ask := func(num, den int, want api.Errno) {
		t.Helper()
		scaled, e1 := loop.Scaled(large, api.Ratio{Num: num, Den: den})
		isList(t, "a ratio that is none", scaled, nil)
		within, e2 := loop.Within(large, api.Ratio{Num: num, Den: den})
		is(t, "a ratio that is none", within, false)
		is(t, fmt.Sprint(num, "/", den), [2]api.Errno{e1, e2}, [2]api.Errno{want, want})
	}
	for num := 1; num <= 4; num++ {
		for den := 1; den <= 4; den++ {
			switch even := num%2 == 0 && den%2 == 0; {
			case even || num == 3 && den == 3:
				ask(num, den, api.ErrForm)
			case num > 1 || den > 1:
				ask(num, den, api.ErrLarge)
			}
		}
	}
	for _, n := range append(beyond(1, 4), -2) {
		ask(n, 1, api.ErrRange)
		ask(1, n, api.ErrRange)
		ask(n, 4, api.ErrRange)
		ask(2, n, api.ErrRange)
		ask(n, n, api.ErrRange)
	}
}

// P3.2, P4: the roots of a scaled polynomial are those of the polynomial, times
// the ratio.
func TestScaledOfMany(t *testing.T) {
	r := rand.New(rand.NewSource(323))
	ratios := []api.Ratio{{Num: 1, Den: 1}, {Num: 1, Den: 2}, {Num: 2, Den: 1}, {Num: 2, Den: 3}, {Num: 3, Den: 2}, {Num: 3, Den: 4}, {Num: 4, Den: 3}, {Num: 1, Den: 3}, {Num: 3, Den: 1}, {Num: 1, Den: 4}, {Num: 4, Den: 1}}
	done := 0
	for range 5000 {
		p := randomPoly(r, 1+r.Intn(4), 20)
		by := ratios[r.Intn(len(ratios))]
		q, e := loop.Scaled(p, by)
		if e != api.OK {
			continue
		}
		done++
		// The coefficients are those of p(z Den / Num), times one number.
		n := len(p) - 1
		for k := range p {
			above, below := float64(p[k])*math.Pow(float64(by.Den), float64(k-n))*math.Pow(float64(by.Num), float64(n-k)), float64(p[n])
			if got := float64(q[k]) * below; math.Abs(got-above*float64(q[n])) > 1e-6 {
				t.Errorf("%v by %v: got %v", p, by, q)
			}
		}
		is(t, fmt.Sprint("the sign of ", p, q), q[n] > 0, p[n] > 0)
		for d := 2; d <= 100; d++ {
			if !slices.ContainsFunc(q, func(a int) bool { return a%d != 0 }) {
				t.Errorf("%v by %v: all of %v have the divisor %d", p, by, q, d)
			}
		}
		stable, _ := loop.Stable(q)
		within, e := loop.Within(p, api.Ratio{Num: by.Den, Den: by.Num})
		is(t, fmt.Sprint(p, by), within, stable)
		is(t, fmt.Sprint(p, by), e, api.OK)
	}
	if done < 1000 {
		t.Errorf("only %d of 5000 polynomials can be scaled", done)
	}
}
