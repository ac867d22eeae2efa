package phasor_test

import (
	"fmt"
	"math/rand"
	"slices"
	"testing"

	"bipole/api"
	"bipole/phasor"
)

// P1.7: products and sums do not depend on the order, norms multiply.
func TestConsequencesOfNumbers(t *testing.T) {
	r := rand.New(rand.NewSource(171))
	for range 500 {
		l := numbers(r, 3, 500)
		a, b, c := l[0], l[1], l[2]
		ab, e1 := phasor.Mul(a, b)
		ba, e2 := phasor.Mul(b, a)
		same(t, "product the other way round", ab, ba)
		same(t, "its errors", [2]api.Errno{e1, e2}, [2]api.Errno{})
		left, _ := phasor.Add(a, b)
		right, _ := phasor.Add(b, a)
		same(t, "sum the other way round", left, right)
		left, _ = phasor.Add(left, c)
		right, _ = phasor.Add(b, c)
		right, _ = phasor.Add(a, right)
		same(t, "sum of three", left, right)

		na, _ := phasor.Norm(a)
		nb, _ := phasor.Norm(b)
		nab, e := phasor.Norm(ab)
		same(t, "norm of the product", nab, na*nb)
		same(t, "its error", e, api.OK)
	}
}

// P1.7: products of three do not depend on the order, and distribute over sums.
func TestConsequencesOfThree(t *testing.T) {
	r := rand.New(rand.NewSource(172))
	for range 500 {
		l := numbers(r, 3, 40)
		ab, _ := phasor.Mul(l[0], l[1])
		bc, _ := phasor.Mul(l[1], l[2])
		left, _ := phasor.Mul(ab, l[2])
		right, _ := phasor.Mul(l[0], bc)
		same(t, "product of three", left, right)
		sum, _ := phasor.Add(l[1], l[2])
		whole, _ := phasor.Mul(l[0], sum)
		ac, _ := phasor.Mul(l[0], l[2])
		parts, _ := phasor.Add(ab, ac)
		same(t, "product with a sum", whole, parts)
	}
}

// P1.7: six sixths are none, and turns add up.
func TestConsequencesOfTurns(t *testing.T) {
	r := rand.New(rand.NewSource(173))
	for range 500 {
		x := numbers(r, 1, most/2)[0]
		n, m := r.Intn(900001)-450000, r.Intn(900001)-450000
		once, e1 := phasor.Turned(x, n)
		more, e2 := phasor.Turned(x, n+6)
		same(t, "six sixths more", more, once)
		same(t, "their errors", [2]api.Errno{e1, e2}, [2]api.Errno{})
		twice, e := phasor.Turned(once, m)
		if e == api.OK {
			both, _ := phasor.Turned(x, n+m)
			same(t, "turned twice", twice, both)
		}
		back, _ := phasor.Turned(once, -n)
		same(t, "turned back", back, x)
		before, _ := phasor.Norm(x)
		after, _ := phasor.Norm(once)
		same(t, "norm of the turned number", after, before)
	}
}

// P1.7: phases come back from their components, whose powers add up to three times the power.
func TestConsequencesOfPhases(t *testing.T) {
	r := rand.New(rand.NewSource(174))
	for range 300 {
		u, i := phasor.Phases(numbers(r, 3, phase)), phasor.Phases(numbers(r, 3, phase))
		cu, e1 := phasor.Components(u)
		ci, e2 := phasor.Components(i)
		same(t, "errors", [2]api.Errno{e1, e2}, [2]api.Errno{})
		back, e := phasor.Restored(cu)
		same(t, "restored phases", back, u)
		same(t, "their error", e, api.OK)
		power, double, _ := phasor.Power(u, i)
		var sum api.Eisen
		for k := range cu {
			sum = plus(sum, times(cu[k], conj(ci[k])))
		}
		same(t, "powers of the components", sum, z(3*power.A, 3*power.B))
		same(t, "twice the real part", double, 2*power.A-power.B)
	}
}

// P1.7: a frame that turns there and back changes nothing.
func TestConsequencesOfFrames(t *testing.T) {
	r := rand.New(rand.NewSource(175))
	for _, n := range []int{0, 1, 2, 7, 100, 256} {
		l := numbers(r, n, most/2)
		sixths := r.Intn(2*phasor.MaxTurn+1) - phasor.MaxTurn
		there, e1 := phasor.Framed(l, sixths)
		back, e2 := phasor.Framed(there, -sixths)
		sameList(t, "there and back", back, l)
		same(t, "errors", [2]api.Errno{e1, e2}, [2]api.Errno{})
	}
}

// P1.7: spectra come back, and their norms add up to six times those of the steps.
func TestConsequencesOfSpectra(t *testing.T) {
	r := rand.New(rand.NewSource(176))
	for range 300 {
		l := six(numbers(r, 6, phase))
		s, _ := phasor.Spectrum(l)
		back, e := phasor.Steps(s)
		same(t, "steps", back, l)
		same(t, "their error", e, api.OK)
		left, right := 0, 0
		for i := range l {
			left += norm(s[i])
			right += 6 * norm(l[i])
		}
		same(t, "norms of the spectrum", left, right)

		four := [4]float32(samples(r, 4))
		panel, _ := phasor.Four(four)
		again, e := phasor.Unfour(panel)
		same(t, "samples", again, four)
		same(t, "their error", e, api.OK)
	}
}

// P1.7: a frame of which a byte is changed is refused.
func TestConsequencesOfFramesOfTelegrams(t *testing.T) {
	r := rand.New(rand.NewSource(177))
	for _, x := range telegrams(r, 100) {
		frame, _ := phasor.Encode(x)
		back, e := phasor.Decode(frame)
		same(t, "telegram", back, x)
		same(t, "its error", e, api.OK)
		for i := range frame {
			bad := frame
			bad[i] ^= byte(1 + r.Intn(255))
			if y, e := phasor.Decode(bad); e == api.OK || y != (phasor.Telegram{}) {
				t.Errorf("%v with another byte at %d: got %v, %v", frame, i, y, e)
			}
		}
	}
}

// P1.7: all telegrams between are found again.
func TestConsequencesOfReceived(t *testing.T) {
	r := rand.New(rand.NewSource(178))
	for range 50 {
		var stream []byte
		var whole []phasor.Telegram
		var torn, gone []int
		from := r.Intn(65536)
		for i := range 200 {
			x := phasor.Telegram{Source: 9, Counter: (from + i) % 65536, Values: [4]int{i, -i}}
			frame, _ := phasor.Encode(x)
			if i > 0 && i < 199 && r.Intn(3) == 0 {
				frame[r.Intn(16)] ^= byte(1 + r.Intn(255))
				torn = append(torn, i)
				gone = append(gone, x.Counter)
			} else {
				whole = append(whole, x)
			}
			stream = append(stream, frame[:]...)
		}
		l, others, e := phasor.Received(stream)
		sameList(t, "telegrams", l, whole)
		sameList(t, "other blocks", others, torn)
		same(t, "error", e, api.OK)
		lost, e := phasor.Lost(l, 9)
		sameList(t, "lost counters", lost, gone)
		same(t, "their error", e, api.OK)
	}
}

// P1.7: records and texts come back as they were.
func TestConsequencesOfRecordsAndTexts(t *testing.T) {
	r := rand.New(rand.NewSource(179))
	for n := range 40 {
		record := phasor.Record{Name: fmt.Sprint("record_", n), Samples: samples(r, r.Intn(1025))}
		s, e := phasor.Pack(record)
		same(t, "error of the stream", e, api.OK)
		back, e := phasor.Unpack(s)
		sameRecord(t, "record", back, record)
		same(t, "its error", e, api.OK)
		again, _ := phasor.Pack(back)
		sameList(t, "stream", again, s)

		l := telegrams(r, r.Intn(1025))
		before := slices.Clone(l)
		text, e := phasor.Print(l)
		same(t, "error of the text", e, api.OK)
		read, at, e := phasor.Parse(text)
		sameList(t, "telegrams", read, before)
		same(t, "index", at, 0)
		same(t, "their error", e, api.OK)
	}
}
