package phasor

import (
	"math"

	"bipole/api"
	"bipole/check"
)

const (
	recordMark = "RECO"
	sampleSize = 4
)

// CheckRecord returns the first error of a record, or OK.
func CheckRecord(r Record) api.Errno {
	if !IsName(r.Name) {
		return api.ErrName
	}
	return check.List(r.Samples, api.MaxSamples, CheckSample)
}

// Pack returns the stream of a record.
func Pack(r Record) ([]byte, api.Errno) {
	if e := CheckRecord(r); e != api.OK {
		return nil, e
	}
	s := []byte(recordMark)
	s = appendNumber(s, len(r.Name), 1)
	s = append(s, r.Name...)
	s = appendNumber(s, len(r.Samples), 2)
	for _, x := range r.Samples {
		s = appendNumber(s, sampleBits(x), sampleSize)
	}
	return sealed(s), api.OK
}

// sampleBits returns the bits of a sample: those of 0 also for -0.
func sampleBits(x float32) int {
	if x == 0 {
		return 0
	}
	return int(math.Float32bits(x))
}

// Unpack returns the record of a stream.
func Unpack(s []byte) (Record, api.Errno) {
	name, samples, e := recordParts(s)
	if e != api.OK {
		return Record{}, e
	}
	if !isSealed(s) {
		return Record{}, api.ErrCheck
	}
	r := Record{Name: string(name), Samples: samplesOf(samples)}
	if e := check.First(CheckRecord(r), check.Each(r.Samples, checkZero)); e != api.OK {
		return Record{}, e
	}
	return r, api.OK
}

// recordParts returns the bytes of the name and those of the samples of a
// stream. It examines the layout alone: what it says is only asked behind the
// checksum.
func recordParts(s []byte) (name, samples []byte, e api.Errno) {
	if len(s) > api.MaxStream {
		return nil, nil, api.ErrLong
	}
	rest := stream{left: s}
	mark := rest.take(len(recordMark))
	if !rest.torn && string(mark) != recordMark {
		return nil, nil, api.ErrForm
	}
	length := number(rest.take(1))
	name = rest.take(length)
	count := number(rest.take(2))
	tail := rest.take(sampleSize*count + sumSize)
	if rest.torn {
		return nil, nil, api.ErrTorn
	}
	if len(rest.left) > 0 {
		return nil, nil, api.ErrShape
	}
	return name, tail[:sampleSize*count], api.OK
}

// stream is bytes that are taken from left to right.
type stream struct {
	left []byte
	torn bool
}

// take returns the next n bytes; none, from then on, if there are fewer.
func (r *stream) take(n int) []byte {
	if r.torn || len(r.left) < n {
		r.torn = true
		return nil
	}
	taken := r.left[:n]
	r.left = r.left[n:]
	return taken
}

// samplesOf returns the samples whose bytes are given.
func samplesOf(s []byte) []float32 {
	samples := make([]float32, len(s)/sampleSize)
	for i := range samples {
		at := sampleSize * i
		samples[i] = math.Float32frombits(uint32(number(s[at : at+sampleSize])))
	}
	return samples
}

// checkZero returns ErrForm for -0, which no stream has.
func checkZero(x float32) api.Errno {
	if x == 0 && math.Signbit(float64(x)) {
		return api.ErrForm
	}
	return api.OK
}
