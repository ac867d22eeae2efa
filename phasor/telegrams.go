package phasor

import (
	"iter"
	"math"

	"bipole/api"
	"bipole/check"
	"bipole/whole"
)

// CheckTelegram returns the error of a telegram, or OK.
func CheckTelegram(t Telegram) api.Errno {
	return check.First(checkSource(t.Source), check.Range(t.Counter, 0, math.MaxUint16), check.Each(t.Values[:], checkValue))
}

func checkSource(source int) api.Errno {
	return check.Range(source, 0, math.MaxUint8)
}

func checkValue(value int) api.Errno {
	return check.Range(value, math.MinInt16, math.MaxInt16)
}

func checkTelegrams(l []Telegram) api.Errno {
	return check.List(l, MaxTelegrams, CheckTelegram)
}

// Encode returns the frame of a telegram.
func Encode(t Telegram) ([Size]byte, api.Errno) {
	if e := CheckTelegram(t); e != api.OK {
		return [Size]byte{}, e
	}
	s := []byte{Mark, byte(t.Source)}
	s = appendNumber(s, t.Counter, 2)
	for _, value := range t.Values {
		s = appendNumber(s, value, 2)
	}
	return [Size]byte(sealed(s)), api.OK
}

// Decode returns the telegram of a frame.
func Decode(s [Size]byte) (Telegram, api.Errno) {
	if s[0] != Mark {
		return Telegram{}, api.ErrForm
	}
	if !isSealed(s[:]) {
		return Telegram{}, api.ErrCheck
	}
	t := Telegram{Source: int(s[1]), Counter: number(s[2:4])}
	for i := range t.Values {
		at := 4 + 2*i
		t.Values[i] = int(int16(number(s[at : at+2])))
	}
	return t, api.OK
}

// Received returns the telegrams of a stream, and the indices of the blocks that are none.
func Received(s []byte) ([]Telegram, []int, api.Errno) {
	if len(s) > MaxTelegrams*Size {
		return nil, nil, api.ErrLong
	}
	if len(s)%Size != 0 {
		return nil, nil, api.ErrTorn
	}
	var telegrams []Telegram
	var others []int
	for i, block := range blocks(s) {
		if t, e := Decode(block); e == api.OK {
			telegrams = append(telegrams, t)
		} else {
			others = append(others, i)
		}
	}
	return telegrams, others, api.OK
}

// blocks visits the whole blocks of a stream, with their indices.
func blocks(s []byte) iter.Seq2[int, [Size]byte] {
	return func(yield func(int, [Size]byte) bool) {
		for i := range len(s) / Size {
			var block [Size]byte
			copy(block[:], s[i*Size:])
			if !yield(i, block) {
				return
			}
		}
	}
}

// Lost returns the counters of a source that are lost.
func Lost(l []Telegram, source int) ([]int, api.Errno) {
	if e := check.First(checkTelegrams(l), checkSource(source)); e != api.OK {
		return nil, e
	}
	lost := lostCounters(l, source)
	if len(lost) > api.MaxList {
		return nil, api.ErrMany
	}
	return lost, api.OK
}

// lostCounters returns the lost counters of a source up to the first one that
// is too many: a list of telegrams may lose millions of them.
func lostCounters(l []Telegram, source int) []int {
	var lost []int
	heard, next := false, 0
search:
	for _, t := range l {
		if t.Source != source {
			continue
		}
		for heard && next != t.Counter {
			lost = append(lost, next)
			next = following(next)
			if len(lost) > api.MaxList {
				break search
			}
		}
		heard, next = true, following(t.Counter)
	}
	return lost
}

// following returns the counter after another one.
func following(counter int) int {
	return whole.Remainder(counter+1, math.MaxUint16+1)
}
