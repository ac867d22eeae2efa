package phasor_test

import (
	"fmt"
	"math/rand"
	"slices"
	"testing"

	"bipole/api"
	"bipole/phasor"
)

// telegramCases are telegrams with their errors.
func telegramCases() map[phasor.Telegram]api.Errno {
	cases := map[phasor.Telegram]api.Errno{
		{}: api.OK,
		{Source: 1, Counter: 2, Values: [4]int{3, -1, 0, 0}}:                        api.OK,
		{Source: 255, Counter: 65535, Values: [4]int{-32768, 32767, 32767, -32768}}: api.OK,
		{Source: -1}: api.ErrRange, {Source: 256}: api.ErrRange,
		{Counter: -1}: api.ErrRange, {Counter: 65536}: api.ErrRange,
	}
	for _, n := range beyond(1 << 20) {
		cases[phasor.Telegram{Source: n}] = api.ErrRange
		cases[phasor.Telegram{Counter: n}] = api.ErrRange
	}
	for i := range 4 {
		for _, n := range append(beyond(1<<20), 32768, -32769) {
			var t phasor.Telegram
			t.Values[i] = n
			cases[t] = api.ErrRange
		}
	}
	return cases
}

// P1.5
func TestCheckTelegram(t *testing.T) {
	for x, e := range telegramCases() {
		same(t, fmt.Sprint(x), phasor.CheckTelegram(x), e)
	}
}

// frameCases are telegrams with their frames.
func frameCases() map[phasor.Telegram][phasor.Size]byte {
	return map[phasor.Telegram][phasor.Size]byte{
		{Source: 1, Counter: 2, Values: [4]int{3, -1, 0, 0}}:                    {177, 1, 0, 2, 0, 3, 255, 255, 0, 0, 0, 0, 0, 210, 13, 225},
		{Source: 255, Counter: 65534, Values: [4]int{-32768, 32767, -1, 0x102}}: {177, 255, 255, 254, 128, 0, 127, 255, 255, 255, 1, 2, 0, 245, 247, 212},
	}
}

// P1.5
func TestEncodeAndDecode(t *testing.T) {
	for x, want := range frameCases() {
		frame, e := phasor.Encode(x)
		same(t, fmt.Sprint("frame of ", x), frame, want)
		same(t, "error", e, api.OK)
		back, e := phasor.Decode(want)
		same(t, fmt.Sprint("telegram of ", want), back, x)
		same(t, "error", e, api.OK)
	}
}

// P1.5: the layout, with numbers from all of their ranges.
func TestEncodeMany(t *testing.T) {
	for _, x := range telegrams(rand.New(rand.NewSource(15)), 300) {
		s := []byte{177, byte(x.Source), byte(x.Counter / 256), byte(x.Counter % 256)}
		for _, v := range x.Values {
			v = (v + 65536) % 65536
			s = append(s, byte(v/256), byte(v%256))
		}
		want := [phasor.Size]byte(seal(s, 0))
		frame, e := phasor.Encode(x)
		same(t, fmt.Sprint("frame of ", x), frame, want)
		same(t, "error", e, api.OK)
		back, e := phasor.Decode(want)
		same(t, fmt.Sprint("telegram of ", want), back, x)
		same(t, "error", e, api.OK)
	}
}

// P1.5
func TestEncodeErrors(t *testing.T) {
	for x, want := range telegramCases() {
		if want != api.OK {
			frame, e := phasor.Encode(x)
			same(t, fmt.Sprint("frame of ", x), frame, [phasor.Size]byte{})
			same(t, fmt.Sprint("error of ", x), e, want)
		}
	}
}

// P1.5
func TestDecodeErrors(t *testing.T) {
	refused := func(s [phasor.Size]byte, want api.Errno) {
		t.Helper()
		x, e := phasor.Decode(s)
		same(t, fmt.Sprint("telegram of ", s), x, phasor.Telegram{})
		same(t, fmt.Sprint("error of ", s), e, want)
	}
	refused([phasor.Size]byte{}, api.ErrForm)
	refused([phasor.Size]byte{phasor.Mark}, api.ErrCheck)
	for _, frame := range frameCases() {
		for i := range frame {
			for d := 1; d < 256; d++ {
				bad := frame
				bad[i] += byte(d)
				refused(bad, map[bool]api.Errno{true: api.ErrForm, false: api.ErrCheck}[i == 0])
			}
		}
		for first := range 256 { // right checksums behind a wrong mark
			bad := frame
			bad[0] = byte(first)
			bad = [phasor.Size]byte(seal(bad[:12], 0))
			if first != phasor.Mark {
				refused(bad, api.ErrForm)
			}
		}
		for _, more := range []int{16777199, 2 * 16777199, 255 * 16777199, 1 << 24, -1} {
			refused([phasor.Size]byte(seal(frame[:12], more)), api.ErrCheck)
		}
	}
}

// P1.5
func TestReceived(t *testing.T) {
	sent := telegrams(rand.New(rand.NewSource(51)), 1024)
	var stream []byte
	var whole []phasor.Telegram
	var others []int
	for i, x := range sent {
		frame, _ := phasor.Encode(x)
		switch i % 5 {
		case 1:
			frame[0]++
			others = append(others, i)
		case 3:
			frame[15]++
			others = append(others, i)
		default:
			whole = append(whole, x)
		}
		stream = append(stream, frame[:]...)
	}
	for _, n := range []int{0, 1, 2, 3, 4, 5, 10, 1024} {
		before := slices.Clone(stream)
		l, indices, e := phasor.Received(stream[:16*n])
		same(t, "error", e, api.OK)
		sameList(t, "telegrams", l, whole[:len(l)])
		sameList(t, "other blocks", indices, others[:len(indices)])
		same(t, "blocks", len(l)+len(indices), n)
		sameList(t, "the argument", stream, before)
	}
	_, indices, e := phasor.Received(make([]byte, 16*3))
	same(t, "error of zeros", e, api.OK)
	sameList(t, "blocks of zeros", indices, []int{0, 1, 2})
}

// P1.5
func TestReceivedErrors(t *testing.T) {
	for _, x := range []struct {
		bytes int
		e     api.Errno
	}{{1, api.ErrTorn}, {15, api.ErrTorn}, {17, api.ErrTorn}, {31, api.ErrTorn}, {40, api.ErrTorn}, {16383, api.ErrTorn}, {16385, api.ErrLong}, {16384 + 16, api.ErrLong}, {100000, api.ErrLong}} {
		frame, _ := phasor.Encode(phasor.Telegram{Source: 1})
		s := slices.Repeat(frame[:], x.bytes/16+1)[:x.bytes]
		l, indices, e := phasor.Received(s)
		same(t, fmt.Sprint(x.bytes, " bytes"), e, x.e)
		sameList(t, "telegrams beside an error", l, nil)
		sameList(t, "indices beside an error", indices, nil)
	}
}

// heard returns telegrams of the source 3 with counters, among others of the source 4.
func heard(counters ...int) []phasor.Telegram {
	l := []phasor.Telegram{{Source: 4, Counter: 5}}
	for _, c := range counters {
		l = append(l, phasor.Telegram{Source: 3, Counter: c, Values: [4]int{c % 7}}, phasor.Telegram{Source: 4, Counter: 9})
	}
	return l
}

// run returns the n counters from one on.
func run(from, n int) []int {
	var l []int
	for i := range n {
		l = append(l, (from+i)%65536)
	}
	return l
}

// P1.5
func TestLost(t *testing.T) {
	for _, x := range []struct {
		counters []int
		lost     []int
		e        api.Errno
	}{
		{nil, nil, api.OK}, {[]int{7}, nil, api.OK}, {[]int{0}, nil, api.OK}, {[]int{65535}, nil, api.OK},
		{[]int{7, 8}, nil, api.OK}, {[]int{65535, 0}, nil, api.OK}, {[]int{65534, 65535, 0, 1}, nil, api.OK},
		{[]int{1, 2, 5}, []int{3, 4}, api.OK}, {[]int{65534, 1}, []int{65535, 0}, api.OK}, {[]int{65535, 1}, []int{0}, api.OK}, {[]int{65534, 0}, []int{65535}, api.OK},
		{[]int{9, 11, 13, 16}, []int{10, 12, 14, 15}, api.OK}, {[]int{65500, 100}, run(65501, 135), api.OK},
		{[]int{0, 257}, run(1, 256), api.OK}, {[]int{0, 258}, nil, api.ErrMany}, {[]int{65535, 256}, run(0, 256), api.OK}, {[]int{65535, 257}, nil, api.ErrMany},
		{[]int{0, 129, 258}, append(run(1, 128), run(130, 128)...), api.OK}, {[]int{0, 129, 259}, nil, api.ErrMany}, {[]int{0, 130, 259}, nil, api.ErrMany},
		{[]int{0, 257, 258, 259}, run(1, 256), api.OK}, {[]int{0, 257, 259}, nil, api.ErrMany},
		{[]int{5, 5}, nil, api.ErrMany}, {[]int{5, 4}, nil, api.ErrMany}, {[]int{5, 3}, nil, api.ErrMany}, {[]int{1, 3, 2, 4}, nil, api.ErrMany}, {[]int{0, 0}, nil, api.ErrMany},
		{[]int{0, 65535}, nil, api.ErrMany},
	} {
		l := heard(x.counters...)
		before := slices.Clone(l)
		lost, e := phasor.Lost(l, 3)
		sameList(t, fmt.Sprint("lost of ", x.counters), lost, x.lost)
		same(t, fmt.Sprint("error of ", x.counters), e, x.e)
		sameList(t, "the argument", l, before)
		lost, e = phasor.Lost(l, 5)
		sameList(t, "lost of a source that is not there", lost, nil)
		same(t, "error", e, api.OK)
	}
}

// P1.5: each source has counters of its own, the last one too.
func TestLostOfSources(t *testing.T) {
	l := []phasor.Telegram{{Source: 0, Counter: 10}, {Source: 255, Counter: 20}, {Source: 0, Counter: 12}, {Source: 255, Counter: 23}, {Source: 7, Counter: 1}, {Source: 255, Counter: 25}}
	for source, want := range map[int][]int{0: {11}, 255: {21, 22, 24}, 7: nil, 1: nil} {
		lost, e := phasor.Lost(l, source)
		sameList(t, fmt.Sprint("lost of ", source), lost, want)
		same(t, "error", e, api.OK)
	}
}

// P1.5
func TestLostErrors(t *testing.T) {
	bad := phasor.Telegram{Source: 256}
	for _, x := range []struct {
		what   string
		l      []phasor.Telegram
		source int
		e      api.Errno
	}{
		{"source below", nil, -1, api.ErrRange}, {"source above", nil, 256, api.ErrRange}, {"source above, lost too many", heard(5, 5), 256, api.ErrRange},
		{"a telegram", []phasor.Telegram{{}, bad}, 3, api.ErrRange}, {"a telegram before too many lost", append(heard(5, 5), bad), 3, api.ErrRange}, {"a telegram of another source", []phasor.Telegram{{Source: 4, Counter: 65536}}, 3, api.ErrRange},
		{"too many telegrams", make([]phasor.Telegram, 1025), 3, api.ErrMany}, {"too many before a source", make([]phasor.Telegram, 1025), 256, api.ErrMany}, {"too many before their ranges", slices.Repeat([]phasor.Telegram{bad}, 1025), 3, api.ErrMany},
		{"as many as may be", make([]phasor.Telegram, 1024), 3, api.OK},
	} {
		lost, e := phasor.Lost(x.l, x.source)
		same(t, x.what, e, x.e)
		sameList(t, x.what, lost, nil)
	}
}
