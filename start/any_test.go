package start_test

import (
	"math"
	"math/rand"
	"slices"
	"testing"

	"bipole/api"
	"bipole/start"
)

// anyInt returns an integer, often one at the end of a range.
func anyInt(r *rand.Rand) int {
	ends := []int{0, 1, 6, 8, 16, 255, 256, 1000, 1024, 10000, 16384, 100000, 1 << 40, math.MaxInt32, math.MaxInt}
	n := ends[r.Intn(len(ends))] + r.Intn(3) - 1
	if r.Intn(4) == 0 {
		n = -n - 1
	}
	return n
}

// anyList returns a list of up to 300 elements.
func anyList[T any](r *rand.Rand, element func(*rand.Rand) T) []T {
	l := make([]T, r.Intn([]int{2, 5, 8, 300}[r.Intn(4)]))
	for i := range l {
		l[i] = element(r)
	}
	return l
}

func anyByte(r *rand.Rand) byte { return "plant need 019-\n"[r.Intn(16)] }

func anyName(r *rand.Rand) string { return []string{"a", "b", "c", "d", "1", ""}[r.Intn(6)] }

func anySpan(r *rand.Rand) api.Span { return api.Span{From: anyInt(r), To: anyInt(r)} }

func anyRow(r *rand.Rand) start.Row { return start.Row{Heat: anyInt(r), Power: anyInt(r)} }

func anySample(r *rand.Rand) float32 {
	return []float32{heat(r.Intn(16385)), heat(anyInt(r)), math.Float32frombits(r.Uint32())}[r.Intn(9)/4]
}

func anyPower(r *rand.Rand) int {
	return []int{r.Intn(1001), anyInt(r)}[r.Intn(30)/29]
}

// anyPlant returns a plant, or one with a part from anywhere.
func anyPlant(r *rand.Rand) start.Plant {
	x := randomPlant(r, 8)
	switch r.Intn(8) {
	case 0:
		x.Capacity = anyInt(r)
	case 1:
		x.Parts = append(x.Parts, part(anyName(r), anyInt(r), anyInt(r), anyInt(r), anyList(r, anyName)...))
	case 2:
		x.Parts[0].Needs = anyList(r, anyName)
	case 3:
		x.Parts = anyList(r, func(r *rand.Rand) start.Part { return part(anyName(r), 1, 1, 1, anyList(r, anyName)...) })
	}
	return x
}

func anyCooling(r *rand.Rand) start.Cooling {
	if r.Intn(4) == 0 {
		return cooling(anyInt(r), anyInt(r), anyInt(r), anyInt(r))
	}
	return cooling(r.Intn(16385), r.Intn(1025), r.Intn(1025), 16384)
}

// anyTable returns a table, or rows from anywhere.
func anyTable(r *rand.Rand) []start.Row {
	if r.Intn(4) == 0 {
		return anyList(r, anyRow)
	}
	return randomTable(r, r.Intn(16000), r.Intn(1001))
}

// P1: every function returns, whatever its arguments are.
func TestAnyPlants(t *testing.T) {
	r := rand.New(rand.NewSource(81))
	for range 5000 {
		x, i, set := anyPlant(r), []int{r.Intn(8), anyInt(r)}[r.Intn(2)], []int{r.Intn(256), anyInt(r)}[r.Intn(2)]
		start.CheckPlant(x)
		start.Needs(x, i)
		start.Spare(x, set)
		start.Ready(x, set)
		start.CheckOrder(x, anyList(r, anyInt))
		start.Order(x, i)
		start.Bound(x, i)
		start.Reachable(x)
		start.CheckClosed(x, i, anyList(r, anyInt))
		start.First(anyList(r, anySpan), anyInt(r), anyInt(r))
		start.First(randomSpans(r, r.Intn(100000)), anyInt(r), anyInt(r))
		start.Times(x, anyList(r, anyInt), anyList(r, anySpan), anyInt(r))
		start.Times(x, []int{i}, randomSpans(r, r.Intn(100000)), anyInt(r))
		start.Print(x)
	}
}

// P1: every function returns, whatever its arguments are.
func TestAnyHeats(t *testing.T) {
	r := rand.New(rand.NewSource(82))
	for range 5000 {
		c, l, x := anyCooling(r), anyTable(r), anySample(r)
		start.CheckCooling(c)
		start.Heat(c, x, anyList(r, anyPower))
		start.Settled(c, anyPower(r))
		start.Rating(c)
		w := start.Wear{From: anyInt(r), Step: anyInt(r)}
		start.CheckWear(w)
		start.Life(w, anyList(r, anySample))
		start.CheckTable(l)
		start.Derated(l, x)
		start.Held(c, l, x, anyList(r, anyPower))
	}
}

// P1: a power settles, if it does, however slowly it gets hot.
func TestSlowHeats(t *testing.T) {
	for gain := range 5 {
		for loss := range 3 {
			c := cooling(0, gain, loss, 16384)
			rating, e := start.Rating(c)
			is(t, "a slow cooling", e, api.OK)
			_, e = start.Settled(c, rating)
			is(t, "a slow cooling", e, api.OK)
		}
	}
}

// P1: every function returns, whatever its arguments are.
func TestAnyTexts(t *testing.T) {
	r := rand.New(rand.NewSource(83))
	for range 5000 {
		s := anyList(r, func(r *rand.Rand) byte { return byte(r.Intn(256)) })
		start.Parse(string(s))
		start.Parse("plant " + string(s))
		start.Parse("plant 1\npart a 1 1 1" + string(anyList(r, anyByte)))
		bad := []byte(text)
		bad[r.Intn(len(bad))] = anyByte(r)
		start.Parse(string(bad))
		start.Parse(string(bad[:r.Intn(len(bad))]))
	}
}

// P8.1, P8.2, P8.3: results share no memory with arguments or with earlier results,
// and arguments are not changed.
func TestMemoryOfPlants(t *testing.T) {
	x, order, sets, blocked := black(100, 201), []int{0, 1}, []int{0, 1, 3}, spans([2]int{5, 6}, [2]int{20, 30})
	use := func(what string, f func() ([]int, api.Errno)) {
		t.Helper()
		first, _ := f()
		want := slices.Clone(first)
		clear(first[:cap(first)])
		isPlant(t, what, x, black(100, 201))
		isList(t, what, order, []int{0, 1})
		isList(t, what, sets, []int{0, 1, 3})
		isList(t, what, blocked, spans([2]int{5, 6}, [2]int{20, 30}))
		again, e := f()
		isList(t, what, again, want)
		is(t, what, e, api.OK)
	}
	use("all needs", func() ([]int, api.Errno) { return start.Needs(x, 3) })
	use("ready parts", func() ([]int, api.Errno) { return start.Ready(x, 0) })
	use("the quickest order", func() ([]int, api.Errno) {
		quickest, _, e := start.Order(x, 1)
		return quickest, e
	})
	use("reachable sets", func() ([]int, api.Errno) { return start.Reachable(x) })
	use("times", func() ([]int, api.Errno) { return start.Times(x, order, blocked, 0) })
	use("numbers", func() ([]int, api.Errno) {
		n, _, _ := start.CheckOrder(x, order)
		tick, _ := start.First(blocked, 0, 9)
		return []int{n, tick}, start.CheckClosed(x, 3, sets)
	})
}

// P8.4: results share no memory with arguments or with earlier results, and arguments
// are not changed.
func TestMemoryOfHeats(t *testing.T) {
	l, powers, heats := table(), []int{1000, 1000, 5}, heatsOf(320, 400)
	for range 2 {
		held, after, e := start.Held(oil, l, 24.9375, powers)
		isList(t, "held", held, []int{1000, 500, 5})
		is(t, "held", len(after), 3)
		is(t, "held", e, api.OK)
		hot, _, e := start.Heat(oil, 20, powers)
		isList(t, "heats", hot, heatsOf(382, 436, 421))
		is(t, "heats", e, api.OK)
		isLife(t, start.Wear{From: 400, Step: 40}, heats, heat(3), api.OK)
		clear(held[:cap(held)])
		clear(after[:cap(after)])
		clear(hot[:cap(hot)])
		isList(t, "the table", l, table())
		isList(t, "powers", powers, []int{1000, 1000, 5})
		isList(t, "heats", heats, heatsOf(320, 400))
	}
}

// P8.5: the needs of the parts of a parsed plant share no memory.
func TestMemoryOfTexts(t *testing.T) {
	x, _, _ := start.Parse(text)
	for i := range x.Parts {
		_ = append(x.Parts[i].Needs, "sun")
		clear(x.Parts[i].Needs[:cap(x.Parts[i].Needs)])
	}
	y, _, _ := start.Parse(text)
	isPlant(t, "parsed again", y, p())
	x = p()
	start.Print(x)
	isPlant(t, "printed", x, p())
}
