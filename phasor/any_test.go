package phasor_test

import (
	"math"
	"math/rand"
	"slices"
	"testing"

	"bipole/api"
	"bipole/phasor"
)

// anyInt returns an integer, often one at the end of a range.
func anyInt(r *rand.Rand) int {
	ends := []int{0, 1, 6, 255, 256, 32767, 65535, 65536, 1000000, most, 999999999, 2147483646, math.MaxInt32, math.MaxInt}
	n := ends[r.Intn(len(ends))] + r.Intn(3) - 1
	if r.Intn(2) == 0 {
		n = -n - 1
	}
	return n
}

func anyEisen(r *rand.Rand) api.Eisen { return z(anyInt(r), anyInt(r)) }

func anyFloat(r *rand.Rand) float32 { return math.Float32frombits(r.Uint32()) }

func anyTelegram(r *rand.Rand) phasor.Telegram {
	return phasor.Telegram{Source: anyInt(r), Counter: anyInt(r), Values: [4]int{anyInt(r), anyInt(r), anyInt(r), anyInt(r)}}
}

// anyList returns a list of up to 2000 elements.
func anyList[T any](r *rand.Rand, element func(*rand.Rand) T) []T {
	l := make([]T, r.Intn([]int{2, 10, 300, 2000}[r.Intn(4)]))
	for i := range l {
		l[i] = element(r)
	}
	return l
}

func anyByte(r *rand.Rand) byte { return byte(r.Intn(256)) }

// P1: every function returns, whatever its arguments are.
func TestAnyNumbers(t *testing.T) {
	r := rand.New(rand.NewSource(11))
	for range 2000 {
		n, m := anyInt(r), anyInt(r)
		x, y := anyEisen(r), anyEisen(r)
		p, q := phasor.Phases{x, y, anyEisen(r)}, phasor.Phases{y, x, anyEisen(r)}
		phasor.Draw(n, m)
		phasor.CheckRatio(api.Ratio{Num: n, Den: m})
		phasor.CheckEisen(x)
		phasor.Add(x, y)
		phasor.Mul(x, y)
		phasor.Turned(x, n)
		phasor.Norm(x)
		phasor.CheckPhases(p)
		phasor.Components(p)
		phasor.Restored(p)
		phasor.Balanced(p)
		phasor.Power(p, q)
		phasor.Framed(anyList(r, anyEisen), n)
		phasor.Spectrum(six{x, y, x, y, x, y})
		phasor.Steps(six{x, y, y, x, x, x})
		phasor.CheckSample(anyFloat(r))
		phasor.Four([4]float32{anyFloat(r), anyFloat(r), anyFloat(r), anyFloat(r)})
		phasor.Unfour([4]complex64{complex(anyFloat(r), anyFloat(r)), complex(anyFloat(r), anyFloat(r))})
	}
}

// P1: every function returns, whatever its arguments are.
func TestAnyBytes(t *testing.T) {
	r := rand.New(rand.NewSource(12))
	whole, _ := phasor.Pack(phasor.Record{Name: "whole", Samples: make([]float32, 20)})
	for range 2000 {
		s := anyList(r, anyByte)
		phasor.IsName(string(s))
		phasor.Received(s)
		phasor.Received(s[:len(s)/16*16])
		phasor.Unpack(s)
		phasor.Unpack(append([]byte("RECO"), s...))
		bad := slices.Clone(whole)
		bad[r.Intn(len(bad))] = anyByte(r)
		phasor.Unpack(bad)
		phasor.Parse(string(s))
		phasor.Parse("telegram " + string(s))
		var frame [phasor.Size]byte
		copy(frame[:], s)
		phasor.Decode(frame)
	}
}

// P1: every function returns, whatever its arguments are.
func TestAnyTelegrams(t *testing.T) {
	r := rand.New(rand.NewSource(13))
	for range 500 {
		l := anyList(r, anyTelegram)
		x := anyTelegram(r)
		phasor.CheckTelegram(x)
		phasor.Encode(x)
		phasor.Lost(l, anyInt(r))
		phasor.Lost(telegrams(r, r.Intn(1025)), r.Intn(256))
		phasor.Print(l)
		record := phasor.Record{Name: string(anyList(r, anyByte)), Samples: anyList(r, anyFloat)}
		phasor.CheckRecord(record)
		phasor.Pack(record)
		record.Name = "any"
		phasor.Pack(record)
	}
}
