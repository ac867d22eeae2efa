package harmonic_test

import (
	"fmt"
	"math/big"
	"math/rand"
	"testing"

	"bipole/api"
	"bipole/harmonic"
)

// P4.5
func TestMeets(t *testing.T) {
	zero := filter([2]int{0, 2}, [2]int{1, 2}) // 0 at the order 2
	for _, x := range []struct {
		f    harmonic.Filter
		l    []api.Gauss
		h    int
		edge int // -1 if they meet
	}{
		{pair(), box(), 1, -1}, {pair(), box(), 2, -1}, {pair(), box(), 3, 0}, {pair(), box(), 4, 2}, {pair(), box(), 5, -1}, {pair(), box(), 6, 0}, {pair(), box(), 7, 2}, {pair(), box(), 12, 2}, {pair(), all(), 3, 0}, {pair(), all(), 4, -1},
		{zero, box(), 2, -1}, {zero, []api.Gauss{g(0, 0), g(1, 0), g(1, 1)}, 2, -1}, {zero, []api.Gauss{g(1, 1), g(0, 0), g(1, 0)}, 2, -1}, {zero, []api.Gauss{g(1, 0), g(2, 0), g(2, 1)}, 2, 2}, {zero, []api.Gauss{g(0, 1), g(1, 1), g(0, 2)}, 2, 0}, {zero, []api.Gauss{g(-1, -1), g(1, -1), g(0, 0)}, 2, -1},
		// The susceptance 1 lies on the first edge, what is more lies to the right of it.
		{filter([2]int{0, 5}), box(), 5, -1}, {filter([2]int{0, 5}), box(), 6, 0}, {filter([2]int{0, 2000}, [2]int{0, 5}), box(), 5, 0},
		// To the right of two edges the first one decides.
		{filter([2]int{0, 1}), []api.Gauss{g(1, -1), g(2, -1), g(2, 0), g(1, 0)}, 2, 0}, {filter([2]int{0, 1}), []api.Gauss{g(2, -1), g(2, 0), g(1, 0), g(1, -1)}, 2, 2}, {filter([2]int{0, 1}), []api.Gauss{g(2, 0), g(1, 0), g(1, -1), g(2, -1)}, 2, 1},
	} {
		what := fmt.Sprint(x.f, x.l, x.h)
		meets, e := harmonic.Meets(x.f, x.l, x.h)
		is(t, "meets: "+what, meets, x.edge < 0)
		is(t, "meets: "+what, e, api.OK)
		edge, e := harmonic.Edge(x.f, x.l, x.h)
		is(t, "the edge: "+what, edge, max(x.edge, 0))
		if x.edge < 0 {
			is(t, "the edge: "+what, e, api.ErrNone)
			continue
		}
		is(t, "the edge: "+what, e, api.OK)
		is(t, "the proof: "+what, harmonic.CheckEdge(x.f, x.l, x.h, x.edge), api.OK)
	}
}

// P4.5
func TestErrorsOfMeets(t *testing.T) {
	for _, n := range append(beyond(1, 12), -3) {
		meets, e := harmonic.Meets(pair(), all(), n)
		is(t, fmt.Sprint("meets at ", n), meets, false)
		is(t, fmt.Sprint("meets at ", n), e, api.ErrRange)
		edge, e := harmonic.Edge(pair(), box(), n)
		is(t, fmt.Sprint("the edge at ", n), edge, 0)
		is(t, fmt.Sprint("the edge at ", n), e, api.ErrRange)
		is(t, fmt.Sprint("the proof at ", n), harmonic.CheckEdge(pair(), box(), n, 4), api.ErrRange)
	}
}

// P4.5
func TestCheckEdge(t *testing.T) {
	for h, proofs := range map[int][4]api.Errno{
		1: {api.ErrProof, api.ErrProof, api.ErrProof, api.ErrProof},
		3: {api.OK, api.OK, api.OK, api.OK},
		4: {api.ErrProof, api.ErrProof, api.OK, api.ErrProof},
		5: {api.ErrProof, api.ErrProof, api.ErrProof, api.ErrProof},
		6: {api.OK, api.OK, api.OK, api.OK},
	} {
		for edge, e := range proofs {
			is(t, fmt.Sprint("the edge ", edge, " at ", h), harmonic.CheckEdge(pair(), box(), h, edge), e)
		}
		for _, edge := range beyond(0, 3) {
			is(t, fmt.Sprint("the edge ", edge, " at ", h), harmonic.CheckEdge(pair(), box(), h, edge), api.ErrUnknown)
		}
		is(t, "the last edge of three", harmonic.CheckEdge(pair(), box()[:3], h, 3), api.ErrUnknown)
	}
}

// ratio returns an integer as a ratio of any size.
func ratio(n int) *big.Rat { return big.NewRat(int64(n), 1) }

// span returns the least and the greatest b such that a polygon holds the point
// i b, or nothing if it holds none.
func span(l []api.Gauss) (low, high *big.Rat) {
	add := func(b *big.Rat) {
		if low == nil || b.Cmp(low) < 0 {
			low = b
		}
		if high == nil || b.Cmp(high) > 0 {
			high = b
		}
	}
	for k, from := range l {
		to := l[(k+1)%len(l)]
		if from.Re == 0 {
			add(ratio(from.Im))
		}
		if from.Re < 0 && to.Re > 0 || from.Re > 0 && to.Re < 0 {
			way := big.NewRat(int64(-from.Re*(to.Im-from.Im)), int64(to.Re-from.Re))
			add(way.Add(way, ratio(from.Im)))
		}
	}
	return low, high
}

// isRightOf reports whether the point -i s is to the right of an edge.
func isRightOf(l []api.Gauss, edge int, s *big.Rat) bool {
	a, b := l[edge], l[(edge+1)%len(l)]
	up := new(big.Rat).Neg(s)
	up.Sub(up, ratio(a.Im)).Mul(up, ratio(b.Re-a.Re))
	return up.Add(up, ratio((b.Im-a.Im)*a.Re)).Sign() < 0
}

// P4.5, P5: a filter meets a polygon if the polygon holds the opposite of its
// susceptance on the imaginary axis; an edge separates them if it is to its right.
func TestMeetsOfMany(t *testing.T) {
	r := rand.New(rand.NewSource(454))
	seen := map[bool]int{}
	for n := range 10000 {
		f, l, h := randomFilter(r), randomPolygon(r, []int{2, 5, 1000}[n%3]), between(r, 1, 12)
		what := fmt.Sprint(f, l, h)
		s := susceptanceOf(f, h)
		low, high := span(l)
		want := s != nil && low != nil && new(big.Rat).Neg(s).Cmp(low) >= 0 && new(big.Rat).Neg(s).Cmp(high) <= 0
		meets, e := harmonic.Meets(f, l, h)
		is(t, "meets: "+what, meets, want)
		is(t, "meets: "+what, e, api.OK)
		seen[meets]++
		first, wanted := 0, api.ErrNone
		for k := len(l) - 1; k >= 0; k-- {
			proof := api.ErrProof
			if s == nil || isRightOf(l, k, s) {
				first, wanted, proof = k, api.OK, api.OK
			}
			is(t, fmt.Sprint("the proof ", k, ": ", what), harmonic.CheckEdge(f, l, h, k), proof)
		}
		edge, e := harmonic.Edge(f, l, h)
		is(t, "the edge: "+what, edge, first)
		is(t, "the edge: "+what, e, wanted)
	}
	if seen[true] < 1000 || seen[false] < 1000 {
		t.Errorf("filters meet polygons, or not: %v", seen)
	}
}

// P4.5
func TestAvoid(t *testing.T) {
	unit := []api.Gauss{g(0, -1), g(1, -1), g(1, 0), g(0, 0)}
	for _, x := range []struct {
		f      harmonic.Filter
		branch int
		l      []api.Gauss
		orders []int
		tap    int
		e      api.Errno
	}{
		{pair(), 0, box(), []int{5}, -1, api.OK}, {pair(), 0, box(), []int{4}, 0, api.OK}, {pair(), 0, box(), []int{3, 4}, 0, api.OK}, {pair(), 0, box(), []int{3, 4, 6, 7, 8, 9, 10, 11, 12}, 0, api.OK}, {pair(), 0, box(), []int{4, 5}, 0, api.ErrInfeasible},
		// The susceptance of a branch with L alone is below 0.
		{filter([2]int{5, 0}), 0, []api.Gauss{g(0, 0), g(1, 0), g(1, 1)}, []int{1}, 0, api.OK},
		// A filter that is tuned to an order meets nothing there.
		{filter([2]int{4, 5}), 0, all(), []int{1}, 1, api.OK}, {filter([2]int{6, 5}), 0, all(), []int{1}, -1, api.OK}, {filter([2]int{8, 32}), 0, all(), []int{2}, 0, api.OK}, {filter([2]int{13, 5}), 0, all(), []int{1}, -8, api.OK}, {filter([2]int{2, 90}), 0, all(), []int{3}, 8, api.OK}, {filter([2]int{14, 5}), 0, all(), []int{1}, 0, api.ErrInfeasible}, {filter([2]int{1, 90}), 0, all(), []int{3}, 0, api.ErrInfeasible},
		// Of the taps -3 and 3, or -2 and 2, which both avoid, the lesser one.
		{filter([2]int{12, 15}, [2]int{6, 1}), 0, unit, []int{1}, -3, api.OK}, {filter([2]int{9, 12}, [2]int{10, 5}), 0, unit, []int{1}, -3, api.OK}, {filter([2]int{3, 20}, [2]int{4, 2}), 0, unit, []int{2}, -2, api.OK},
		// The tap changes its own branch alone.
		{filter([2]int{5, 2}, [2]int{8, 9}), 0, all(), []int{1}, -3, api.OK}, {filter([2]int{5, 2}, [2]int{8, 9}), 1, all(), []int{1}, 1, api.OK},
		{pair(), 0, all(), []int{1, 2}, 0, api.ErrInfeasible}, {filter([2]int{1, 0}, [2]int{2, 9}), 0, all(), []int{12}, 0, api.ErrInfeasible},
		{pair(), 2, box(), []int{5}, 0, api.ErrUnknown}, {pair(), -1, box(), []int{5}, 0, api.ErrUnknown},
		{pair(), 0, box(), nil, 0, api.ErrEmpty}, {pair(), 0, box(), []int{}, 0, api.ErrEmpty}, {pair(), 0, box(), make([]int, 13), 0, api.ErrMany}, {pair(), 0, box(), []int{1, 2, 3, 4, 5, 6, 7, 8, 9, 10, 11, 12, 13}, 0, api.ErrMany},
		{pair(), 0, box(), []int{5, 5}, 0, api.ErrOrder}, {pair(), 0, box(), []int{5, 4}, 0, api.ErrOrder}, {pair(), 0, box(), []int{4, 5, 1, 13}, 0, api.ErrOrder}, {pair(), 0, box(), []int{4, 13, 1}, 0, api.ErrRange}, {pair(), 0, box(), []int{5, 0}, 0, api.ErrRange}, {pair(), 0, box(), make([]int, 12), 0, api.ErrRange},
	} {
		tap, e := harmonic.Avoid(x.f, x.branch, x.l, x.orders)
		what := fmt.Sprint(x.f, x.branch, x.l, x.orders)
		is(t, what, tap, x.tap)
		is(t, what, e, x.e)
	}
	for _, n := range beyond(1, 12) {
		tap, e := harmonic.Avoid(pair(), 0, box(), []int{n})
		is(t, fmt.Sprint("the tap at ", n), tap, 0)
		is(t, fmt.Sprint("the tap at ", n), e, api.ErrRange)
	}
}

// tapOf returns the tap that avoids a polygon, or 99: it asks for all taps, and
// keeps the best one.
func tapOf(f harmonic.Filter, branch int, l []api.Gauss, orders []int) int {
	best := 99
	for tap := 8; tap >= -8; tap-- {
		changed, e := harmonic.Tapped(f, branch, tap)
		avoids := e == api.OK
		for _, h := range orders {
			meets, _ := harmonic.Meets(changed, l, h)
			avoids = avoids && !meets
		}
		if avoids && max(tap, -tap) <= max(best, -best) {
			best = tap
		}
	}
	return best
}

// randomOrders returns ascending orders.
func randomOrders(r *rand.Rand) []int {
	var orders []int
	for h, n := 1, between(r, 1, 12); h <= 12; h++ {
		if r.Intn(n) == 0 {
			orders = append(orders, h)
		}
	}
	if len(orders) == 0 {
		return []int{between(r, 1, 12)}
	}
	return orders
}

// P4.5: the tap that avoids is the best one of all.
func TestAvoidOfMany(t *testing.T) {
	r := rand.New(rand.NewSource(455))
	seen := map[int]int{}
	for n := range 10000 {
		f, l, orders := randomFilter(r), randomPolygon(r, []int{2, 5, 1000}[n%3]), randomOrders(r)
		branch := r.Intn(len(f.Branches))
		want, wanted := tapOf(f, branch, l, orders), api.OK
		seen[want]++
		if want == 99 {
			want, wanted = 0, api.ErrInfeasible
		}
		tap, e := harmonic.Avoid(f, branch, l, orders)
		what := fmt.Sprint(f, branch, l, orders)
		is(t, what, tap, want)
		is(t, what, e, wanted)
	}
	if len(seen) != 18 || seen[99] < 500 || seen[0] > 9000 {
		t.Errorf("the taps are %v", seen)
	}
}
