package phasor_test

import (
	"fmt"
	"math"
	"math/rand"
	"slices"
	"strings"
	"testing"

	"bipole/api"
	"bipole/phasor"
)

// P1.6
func TestCheckRecord(t *testing.T) {
	long := make([]float32, 1025)
	long[0] = nan
	for _, x := range []struct {
		what string
		r    phasor.Record
		e    api.Errno
	}{
		{"samples", phasor.Record{Name: "r", Samples: []float32{1, -0.5}}, api.OK},
		{"no samples", phasor.Record{Name: "r"}, api.OK},
		{"-0", phasor.Record{Name: "r", Samples: []float32{negZero}}, api.OK},
		{"as much as may be", phasor.Record{Name: strings.Repeat("r", 24), Samples: make([]float32, 1024)}, api.OK},
		{"no name", phasor.Record{}, api.ErrName}, {"a long name", phasor.Record{Name: strings.Repeat("r", 25)}, api.ErrName}, {"a name of digits", phasor.Record{Name: "1"}, api.ErrName}, {"a name with a blank", phasor.Record{Name: "a b"}, api.ErrName},
		{"a name before too many", phasor.Record{Samples: long}, api.ErrName}, {"a name before a sample", phasor.Record{Name: "_", Samples: []float32{nan}}, api.ErrName},
		{"too many", phasor.Record{Name: "r", Samples: make([]float32, 1025)}, api.ErrMany}, {"too many before a sample", phasor.Record{Name: "r", Samples: long}, api.ErrMany},
		{"NaN", phasor.Record{Name: "r", Samples: []float32{0, nan}}, api.ErrForm}, {"infinite", phasor.Record{Name: "r", Samples: []float32{inf}}, api.ErrForm}, {"a range", phasor.Record{Name: "r", Samples: []float32{0.01}}, api.ErrRange},
		{"a form before a range", phasor.Record{Name: "r", Samples: []float32{1, -inf, 2000}}, api.ErrForm}, {"a range before a form", phasor.Record{Name: "r", Samples: []float32{1, 2000, nan}}, api.ErrRange},
	} {
		same(t, x.what, phasor.CheckRecord(x.r), x.e)
		s, e := phasor.Pack(x.r)
		same(t, x.what+" packed", e, x.e)
		same(t, x.what+" packed: empty", len(s) == 0, x.e != api.OK)
	}
}

// stream returns the stream of a name and of the bits of samples, whether or not they are a record's.
func stream(name string, bits ...uint32) []byte {
	s := append([]byte{'R', 'E', 'C', 'O', byte(len(name))}, name...)
	s = append(s, byte(len(bits)>>8), byte(len(bits)))
	for _, b := range bits {
		s = append(s, byte(b>>24), byte(b>>16), byte(b>>8), byte(b))
	}
	return seal(s, 0)
}

// P1.6
func TestPack(t *testing.T) {
	r := phasor.Record{Name: "r", Samples: []float32{1, -0.5}}
	want := []byte{'R', 'E', 'C', 'O', 1, 'r', 0, 2, 63, 128, 0, 0, 191, 0, 0, 0, 0, 9, 104, 79}
	s, e := phasor.Pack(r)
	sameList(t, "stream", s, want)
	same(t, "error", e, api.OK)
	sameRecord(t, "the argument", r, phasor.Record{Name: "r", Samples: []float32{1, -0.5}})
	back, e := phasor.Unpack(want)
	sameRecord(t, "record", back, r)
	same(t, "error", e, api.OK)

	s, e = phasor.Pack(phasor.Record{Name: "Zero_0", Samples: []float32{negZero, 0, negZero}})
	sameList(t, "stream of -0", s, stream("Zero_0", 0, 0, 0))
	same(t, "error of -0", e, api.OK)
	s, e = phasor.Pack(phasor.Record{Name: "a"})
	sameList(t, "stream without samples", s, stream("a"))
	same(t, "error without samples", e, api.OK)
}

// P1.6
func TestPackAndUnpackMany(t *testing.T) {
	random := rand.New(rand.NewSource(16))
	for _, n := range []int{0, 1, 2, 3, 255, 256, 257, 1000, 1023, 1024} {
		r := phasor.Record{Name: strings.Repeat("n", n%24+1), Samples: samples(random, n)}
		var bits []uint32
		for i, x := range r.Samples {
			if x == 0 {
				r.Samples[i] = 1
			}
			bits = append(bits, math.Float32bits(r.Samples[i]))
		}
		want := stream(r.Name, bits...)
		s, e := phasor.Pack(r)
		sameList(t, fmt.Sprint("stream of ", n), s, want)
		same(t, "error", e, api.OK)
		back, e := phasor.Unpack(want)
		sameRecord(t, fmt.Sprint("record of ", n), back, r)
		same(t, "error", e, api.OK)
		clear(want)
		sameRecord(t, "record apart from the stream", back, r)
	}
}

// refused fails a test if a stream has not just an expected error.
func refused(t *testing.T, what string, s []byte, want api.Errno) {
	t.Helper()
	before := slices.Clone(s)
	r, e := phasor.Unpack(s)
	same(t, what, e, want)
	sameRecord(t, what, r, phasor.Record{})
	sameList(t, what+": the argument", s, before)
}

// P1.6: the errors of the layout, in their order.
func TestUnpackLayout(t *testing.T) {
	s := stream("name_1", 0x3f800000, 0xbf000000, 0)
	for n := range len(s) {
		refused(t, fmt.Sprint("the first ", n, " bytes"), s[:n], api.ErrTorn)
		if n < 4 {
			bad := slices.Clone(s)
			bad[n]++
			refused(t, fmt.Sprint("another mark at ", n), bad, api.ErrForm)
			refused(t, fmt.Sprint("another mark at ", n, ", torn"), bad[:5], api.ErrForm)
			refused(t, fmt.Sprint("another mark at ", n, ", alone"), bad[:4], api.ErrForm)
			refused(t, fmt.Sprint("another mark at ", n, ", too short"), bad[:3], api.ErrTorn)
		}
	}
	for more := 1; more < 6; more++ {
		refused(t, fmt.Sprint(more, " bytes more"), append(slices.Clone(s), make([]byte, more)...), api.ErrShape)
		refused(t, fmt.Sprint(more, " bytes more with a checksum"), seal(append(slices.Clone(s), make([]byte, more)...), 0), api.ErrShape)
	}
	refused(t, "more with another name", append(stream("1"), 0), api.ErrShape)
	refused(t, "more with a wrong checksum", append(s[:len(s)-1:len(s)-1], s[len(s)-1]+1, 0), api.ErrShape)
	refused(t, "too long", append(slices.Clone(s), make([]byte, 400001-len(s))...), api.ErrLong)
	refused(t, "too long without a mark", make([]byte, 400001), api.ErrLong)
	refused(t, "as long as may be", append(slices.Clone(s), make([]byte, 400000-len(s))...), api.ErrShape)
	refused(t, "as long as may be without a mark", make([]byte, 400000), api.ErrForm)
}

// P1.6: each wrong byte behind the lengths is told by the checksum.
func TestUnpackChecksum(t *testing.T) {
	s := stream("name_1", 0x3f800000, 0xbf000000, 0)
	for i := range s {
		if i < 5 || i == 11 || i == 12 { // the mark and the lengths
			continue
		}
		for d := 1; d < 256; d++ {
			bad := slices.Clone(s)
			bad[i] += byte(d)
			refused(t, fmt.Sprint("a wrong byte at ", i), bad, api.ErrCheck)
		}
	}
	for _, more := range []int{16777199, 2 * 16777199, 1 << 24, 255 << 24, -1} {
		refused(t, fmt.Sprint("a checksum and ", more), seal(s[:len(s)-4], more), api.ErrCheck)
	}
	bad := stream("1name", 0x80000000)
	bad[len(bad)-1]++
	refused(t, "a wrong checksum before a wrong name", bad, api.ErrCheck)
}

// P1.6: the errors of what a stream says, behind a right checksum.
func TestUnpackContent(t *testing.T) {
	const one, nanBits, infBits, minus, small = 0x3f800000, 0x7fc00000, 0x7f800000, 0x80000000, 0x3c000000
	for _, x := range []struct {
		what string
		s    []byte
		e    api.Errno
	}{
		{"no name", stream(""), api.ErrName}, {"another name", stream("1a", one), api.ErrName}, {"a name with other bytes", stream("a\xff"), api.ErrName}, {"a long name", stream(strings.Repeat("a", 25)), api.ErrName}, {"a name as long as a byte says", stream(strings.Repeat("a", 255), one), api.ErrName},
		{"a name before a number", stream("", make([]uint32, 1025)...), api.ErrName}, {"a name before -0", stream("_", minus), api.ErrName},
		{"too many samples", stream("a", make([]uint32, 1025)...), api.ErrMany}, {"as many samples as two bytes say", stream("a", make([]uint32, 65535)...), api.ErrMany}, {"too many before -0", stream("a", slices.Repeat([]uint32{minus}, 1025)...), api.ErrMany},
		{"NaN", stream("a", one, nanBits), api.ErrForm}, {"another NaN", stream("a", one, 0xff800001), api.ErrForm}, {"infinite", stream("a", infBits), api.ErrForm}, {"no multiple", stream("a", small), api.ErrRange}, {"above", stream("a", one, math.Float32bits(1025)), api.ErrRange},
		{"-0", stream("a", minus), api.ErrForm}, {"-0 behind others", stream("a", one, 0, minus), api.ErrForm}, {"a range behind -0", stream("a", minus, small), api.ErrRange}, {"a range before -0", stream("a", small, minus), api.ErrRange}, {"less than 0", stream("a", 0x80000001), api.ErrRange},
	} {
		refused(t, x.what, x.s, x.e)
	}
	for _, r := range []phasor.Record{{Name: "a"}, {Name: "a", Samples: []float32{0}}, {Name: strings.Repeat("Z", 24), Samples: []float32{1024, -1024, 0.0625}}, {Name: "a", Samples: make([]float32, 1024)}} {
		var bits []uint32
		for _, x := range r.Samples {
			bits = append(bits, math.Float32bits(x))
		}
		back, e := phasor.Unpack(stream(r.Name, bits...))
		sameRecord(t, "record", back, r)
		same(t, "error", e, api.OK)
	}
}
