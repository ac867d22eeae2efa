package start_test

import (
	"fmt"
	"math/rand"
	"slices"
	"testing"

	"bipole/api"
	"bipole/start"
)

// spans returns spans, each of two ticks.
func spans(l ...[2]int) []api.Span {
	var result []api.Span
	for _, s := range l {
		result = append(result, api.Span{From: s[0], To: s[1]})
	}
	return result
}

// manySpans returns so many spans of a tick each, with one between them.
func manySpans(n int) []api.Span {
	var l []api.Span
	for i := range n {
		l = append(l, api.Span{From: 2 * i, To: 2*i + 1})
	}
	return l
}

// badSpans returns blocked spans with each error, most of them with later errors, too.
func badSpans() map[api.Errno][][]api.Span {
	none := [2]int{-1, -1}
	l := map[api.Errno][][]api.Span{
		api.ErrMany:  {manySpans(257), make([]api.Span, 257), make([]api.Span, 1000)},
		api.ErrSpan:  {spans(none), spans([2]int{0, 0}), spans([2]int{5, 5}, [2]int{4, 6}), spans([2]int{5, 6}, [2]int{4, 4}), spans([2]int{5, 6}, [2]int{7, 6}), spans([2]int{6, 5}), spans([2]int{100000, 100000}), spans([2]int{100000, 0}), spans([2]int{99999, 100001})},
		api.ErrOrder: {spans([2]int{3, 5}, [2]int{4, 6}), spans([2]int{3, 5}, [2]int{4, 5}, none), spans([2]int{5, 6}, [2]int{4, 5}), spans([2]int{5, 6}, [2]int{5, 6}), spans([2]int{0, 1}, [2]int{5, 7}, [2]int{6, 8}, none), spans([2]int{5, 100000}, [2]int{0, 5}), spans([2]int{0, 100000}, [2]int{99999, 100000})},
	}
	for _, n := range beyond(0, 100000) {
		l[api.ErrSpan] = append(l[api.ErrSpan], spans([2]int{n, 5}), spans([2]int{5, n}), spans([2]int{5, 6}, [2]int{n, 5}), spans([2]int{5, 6}, [2]int{1, n}), spans([2]int{n, n}, [2]int{5, 6}, [2]int{5, 6}))
	}
	return l
}

// eachBadSpans calls a function with blocked spans and with the error that they have.
func eachBadSpans(f func(what string, l []api.Span, e api.Errno)) {
	for e, all := range badSpans() {
		for _, l := range all {
			f(brief("the spans ", l), l, e)
		}
	}
}

// isFirst fails a test if the first tick from which on minutes are free is not the
// expected one.
func isFirst(t *testing.T, blocked []api.Span, from, minutes, want int, wanted api.Errno) {
	t.Helper()
	what := brief(minutes, " minutes from ", from, " on beside ", blocked)
	tick, e := start.First(blocked, from, minutes)
	is(t, what, tick, want)
	is(t, what, e, wanted)
}

// P8.3: spans, the tick and the minutes are asked for in this order.
func TestBadFirst(t *testing.T) {
	eachBadSpans(func(_ string, l []api.Span, e api.Errno) {
		for _, n := range []int{5, -1, 100001} {
			isFirst(t, l, n, n, 0, e)
		}
	})
	for _, n := range beyond(0, 100000) {
		isFirst(t, nil, n, 5, 0, api.ErrRange)
		isFirst(t, spans([2]int{0, 100000}), n, 5, 0, api.ErrRange)
	}
	for _, n := range beyond(1, 100000) {
		isFirst(t, nil, 5, n, 0, api.ErrRange)
		isFirst(t, spans([2]int{0, 100000}), 5, n, 0, api.ErrRange)
	}
}

// P8.3: minutes are free up to the begin of a span and from its end on.
func TestFirst(t *testing.T) {
	two := spans([2]int{5, 10}, [2]int{12, 20})
	for _, x := range []struct {
		blocked             []api.Span
		from, minutes, want int
	}{
		{two, 0, 5, 0}, {two, 1, 5, 20}, {two, 1, 4, 1}, {two, 0, 6, 20}, {two, 4, 2, 10}, {two, 4, 1, 4}, {two, 5, 1, 10}, {two, 5, 2, 10}, {two, 9, 2, 10}, {two, 10, 2, 10}, {two, 10, 3, 20}, {two, 11, 1, 11}, {two, 11, 2, 20}, {two, 12, 1, 20}, {two, 19, 1, 20}, {two, 20, 1, 20}, {two, 20, 99980, 20}, {two, 0, 99980, 20}, {two, 21, 7, 21},
		{nil, 0, 100000, 0}, {nil, 0, 1, 0}, {nil, 99999, 1, 99999}, {nil, 99990, 10, 99990}, {spans([2]int{5, 6}, [2]int{6, 7}), 4, 2, 7}, {spans([2]int{0, 99999}), 0, 1, 99999}, {spans([2]int{1, 100000}), 0, 1, 0}, {spans([2]int{0, 1}, [2]int{99999, 100000}), 0, 99998, 1}, {manySpans(256), 0, 1, 1}, {manySpans(256), 0, 2, 511}, {manySpans(256), 509, 1, 509}, {manySpans(256), 510, 1, 511},
	} {
		isFirst(t, x.blocked, x.from, x.minutes, x.want, api.OK)
	}
	for _, x := range []struct {
		blocked       []api.Span
		from, minutes int
	}{
		{nil, 100000, 1}, {nil, 1, 100000}, {nil, 99999, 2}, {nil, 99991, 10}, {spans([2]int{0, 99999}), 0, 2}, {spans([2]int{0, 100000}), 0, 1}, {spans([2]int{50000, 50001}), 0, 50001}, {spans([2]int{0, 1}, [2]int{99999, 100000}), 0, 99999}, {two, 0, 99981}, {two, 21, 99980}, {spans([2]int{1, 100000}), 1, 1}, {spans([2]int{99999, 100000}), 99999, 1},
	} {
		isFirst(t, x.blocked, x.from, x.minutes, 0, api.ErrNone)
	}
}

// randomSpans returns blocked spans near a tick.
func randomSpans(r *rand.Rand, tick int) []api.Span {
	var l []api.Span
	for range r.Intn(12) {
		tick += r.Intn(7)
		s := api.Span{From: tick, To: tick + between(r, 1, 5)}
		if tick = s.To; tick > 100000 {
			break
		}
		l = append(l, s)
	}
	return l
}

// firstOf returns what First does for arguments without an error, by the definition.
func firstOf(blocked []api.Span, from, minutes int) (int, api.Errno) {
	for ; from+minutes <= 100000; from++ {
		free := true
		for tick := from; tick < from+minutes; tick++ {
			free = free && !slices.ContainsFunc(blocked, func(s api.Span) bool { return s.From <= tick && tick < s.To })
		}
		if free {
			return from, api.OK
		}
	}
	return 0, api.ErrNone
}

// P8.3: the first tick is that of the definition.
func TestFirstOfMany(t *testing.T) {
	r := rand.New(rand.NewSource(831))
	seen := map[string]int{}
	for range 10000 {
		near := []int{0, 99950}[r.Intn(2)]
		blocked, from, minutes := randomSpans(r, near), near+r.Intn(51), between(r, 1, 9)
		want, e := firstOf(blocked, from, minutes)
		isFirst(t, blocked, from, minutes, want, e)
		seen[fmt.Sprint(e, want > from)]++
	}
	if len(seen) != 3 || seen["0 true"] < 500 || seen["0 false"] < 500 || seen["7 false"] < 500 {
		t.Errorf("the results are %v", seen)
	}
}

// areTimes fails a test if the times of an order are not the expected ones.
func areTimes(t *testing.T, x start.Plant, order []int, blocked []api.Span, from int, want []int, wanted api.Errno) {
	t.Helper()
	what := brief(order, " from ", from, " on beside ", blocked, " of ", x)
	ticks, e := start.Times(x, order, blocked, from)
	isList(t, what, ticks, want)
	is(t, what, e, wanted)
}

// P8.3: the plant, the order, the spans and the tick are asked for in this order.
func TestBadTimes(t *testing.T) {
	bad := spans([2]int{5, 5})
	eachBadPlant(func(_ string, x start.Plant, e api.Errno) {
		areTimes(t, x, nil, nil, 0, nil, e)
		areTimes(t, x, []int{0, -1}, bad, -1, nil, e)
	})
	for _, x := range []struct {
		x     start.Plant
		order []int
		e     api.Errno
	}{
		{p(), []int{-1}, api.ErrUnknown}, {p(), []int{0, 4}, api.ErrUnknown}, {p(), []int{0, 0, 4}, api.ErrTwice}, {p(), []int{0, 3, 3}, api.ErrRule}, {p(), []int{1}, api.ErrRule}, {black(100, 180), []int{0, 1, 2, 3}, api.ErrLimit}, {p(), make([]int, 1000), api.ErrTwice},
	} {
		areTimes(t, x.x, x.order, nil, 0, nil, x.e)
		areTimes(t, x.x, x.order, bad, -1, nil, x.e)
		areTimes(t, x.x, x.order, spans([2]int{0, 100000}), 0, nil, x.e)
	}
	eachBadSpans(func(_ string, l []api.Span, e api.Errno) {
		for _, order := range [][]int{nil, {0}, {0, 1, 2, 3}} {
			areTimes(t, p(), order, l, 0, nil, e)
			areTimes(t, p(), order, l, -1, nil, e)
		}
	})
	for _, n := range beyond(0, 100000) {
		areTimes(t, p(), nil, nil, n, nil, api.ErrRange)
		areTimes(t, p(), []int{0, 1}, spans([2]int{0, 100000}), n, nil, api.ErrRange)
	}
}

// P8.3: each part begins at the end of the one before it, or when its minutes are free.
func TestTimes(t *testing.T) {
	two := spans([2]int{5, 10}, [2]int{12, 20})
	all := []int{0, 1, 2, 3}
	for _, x := range []struct {
		order   []int
		blocked []api.Span
		from    int
		want    []int
	}{
		{[]int{0, 1}, two[1:], 0, []int{0, 20}}, {[]int{0, 1}, two, 0, []int{20, 30}}, {nil, two, 0, nil}, {nil, spans([2]int{0, 100000}), 100000, nil}, {all, nil, 0, []int{0, 10, 15, 23}}, {[]int{0, 2, 1, 3}, nil, 7, []int{7, 17, 25, 30}}, {all, nil, 99974, []int{99974, 99984, 99989, 99997}},
		{all, spans([2]int{10, 15}), 0, []int{0, 15, 20, 28}}, {all, spans([2]int{11, 15}), 0, []int{0, 15, 20, 28}}, {all, spans([2]int{15, 16}), 0, []int{0, 10, 16, 24}}, {all, spans([2]int{26, 90}), 0, []int{0, 10, 15, 23}}, {all, spans([2]int{25, 90}), 0, []int{0, 10, 15, 90}}, {all, spans([2]int{9, 10}, [2]int{22, 23}, [2]int{34, 35}), 0, []int{10, 23, 35, 43}}, {all, spans([2]int{0, 99974}), 0, []int{99974, 99984, 99989, 99997}},
	} {
		areTimes(t, p(), x.order, x.blocked, x.from, x.want, api.OK)
	}
	for _, x := range []struct {
		order   []int
		blocked []api.Span
		from    int
	}{
		{all, nil, 99975}, {all, nil, 99991}, {all, nil, 100000}, {[]int{0}, nil, 99991}, {all, spans([2]int{99999, 100000}), 99974}, {all, spans([2]int{0, 99975}), 0}, {all, spans([2]int{99984, 99985}), 99974}, {all, spans([2]int{0, 100000}), 0},
	} {
		areTimes(t, p(), x.order, x.blocked, x.from, nil, api.ErrNone)
	}
	areTimes(t, p(), []int{0}, nil, 99990, []int{99990}, api.OK)
	areTimes(t, equal(0, 8, 0, 1000), []int{7, 0, 1}, nil, 97000, []int{97000, 98000, 99000}, api.OK)
}

// randomOrder returns an order of a plant.
func randomOrder(r *rand.Rand, x start.Plant) []int {
	var order []int
	for range r.Intn(len(x.Parts) + 1) {
		if ready, _ := start.Ready(x, setOf(order)); len(ready) > 0 {
			order = append(order, ready[r.Intn(len(ready))])
		}
	}
	return order
}

// P8.3: the times of orders are those of the definition.
func TestTimesOfMany(t *testing.T) {
	r := rand.New(rand.NewSource(832))
	seen := map[api.Errno]int{}
	for range 5000 {
		x := randomPlant(r, 8)
		for i := range x.Parts {
			x.Parts[i].Minutes = between(r, 1, 6)
		}
		near := []int{0, 99950}[r.Intn(2)]
		order, blocked, from := randomOrder(r, x), randomSpans(r, near), near+r.Intn(40)
		if len(order) == 0 {
			continue
		}
		var want []int
		end, wanted := from, api.OK
		for _, i := range order {
			tick, e := firstOf(blocked, end, x.Parts[i].Minutes)
			if e != api.OK {
				want, wanted = nil, e
				break
			}
			want = append(want, tick)
			end = tick + x.Parts[i].Minutes
		}
		areTimes(t, x, order, blocked, from, want, wanted)
		seen[wanted]++
	}
	if seen[api.OK] < 500 || seen[api.ErrNone] < 200 {
		t.Errorf("the errors are %v", seen)
	}
}
