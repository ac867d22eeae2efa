package phasor_test

import (
	"math/rand"
	"slices"
	"strconv"
	"strings"
	"testing"

	"bipole/api"
	"bipole/phasor"
)

// P1.5
func TestPrint(t *testing.T) {
	for _, x := range []struct {
		what string
		l    []phasor.Telegram
		s    string
		e    api.Errno
	}{
		{"nothing", nil, "", api.OK},
		{"one", []phasor.Telegram{{Source: 1, Counter: 2, Values: [4]int{3, -1}}}, "telegram 1 2 3 -1 0 0\n", api.OK},
		{"two", []phasor.Telegram{{Source: 255, Counter: 65535, Values: [4]int{-32768, 32767, 10, -100}}, {}}, "telegram 255 65535 -32768 32767 10 -100\ntelegram 0 0 0 0 0 0\n", api.OK},
		{"a range", []phasor.Telegram{{}, {Counter: 65536}}, "", api.ErrRange},
		{"too many", make([]phasor.Telegram, 1025), "", api.ErrMany},
		{"too many before their ranges", slices.Repeat([]phasor.Telegram{{Source: -1}}, 1025), "", api.ErrMany},
		{"as many as may be", make([]phasor.Telegram, 1024), strings.Repeat("telegram 0 0 0 0 0 0\n", 1024), api.OK},
	} {
		s, e := phasor.Print(x.l)
		same(t, x.what, s, x.s)
		same(t, x.what, e, x.e)
	}
	for x, want := range telegramCases() {
		_, e := phasor.Print([]phasor.Telegram{x})
		same(t, "error of one telegram", e, want)
	}
}

// P1.5
func TestParse(t *testing.T) {
	const line = "telegram 1 2 3 -1 0 0\n"
	one := phasor.Telegram{Source: 1, Counter: 2, Values: [4]int{3, -1}}
	for _, x := range []struct {
		s  string
		l  []phasor.Telegram
		at int
		e  api.Errno
	}{
		{"", nil, 0, api.OK},
		{line, []phasor.Telegram{one}, 0, api.OK},
		{line + "telegram 255 65535 -32768 32767 10 -100\n" + line, []phasor.Telegram{one, {Source: 255, Counter: 65535, Values: [4]int{-32768, 32767, 10, -100}}, one}, 0, api.OK},
		{strings.Repeat(line, 1024), slices.Repeat([]phasor.Telegram{one}, 1024), 0, api.OK},
		{"\n", nil, 0, api.ErrSyntax}, {line + "\n", nil, 1, api.ErrSyntax}, {"\n" + line, nil, 0, api.ErrSyntax}, {line + "\n" + line, nil, 1, api.ErrSyntax}, {line + line + " \n", nil, 2, api.ErrSyntax},
		{"telegram 1 2 3 -1 0 0", nil, 0, api.ErrSyntax}, {line + "telegram 1 2 3 -1 0 0", nil, 1, api.ErrSyntax}, {line + "x", nil, 1, api.ErrSyntax}, {line + " ", nil, 1, api.ErrSyntax},
		{"telegram 1 2 3 -1 0 0\r\n", nil, 0, api.ErrSyntax}, {"telegram 1 2 3 -1 0 0 \n", nil, 0, api.ErrSyntax}, {" " + line, nil, 0, api.ErrSyntax}, {"telegram  1 2 3 -1 0 0\n", nil, 0, api.ErrSyntax}, {"telegram\t1 2 3 -1 0 0\n", nil, 0, api.ErrSyntax},
		{"telegram 1 2 3 -1 0\n", nil, 0, api.ErrSyntax}, {"telegram 1 2 3 -1 0 \n", nil, 0, api.ErrSyntax}, {"telegram 1 2 3 -1 0 0 0\n", nil, 0, api.ErrSyntax}, {"telegram\n", nil, 0, api.ErrSyntax}, {"telegram \n", nil, 0, api.ErrSyntax},
		{"Telegram 1 2 3 -1 0 0\n", nil, 0, api.ErrSyntax}, {"telegra 1 2 3 -1 0 0\n", nil, 0, api.ErrSyntax}, {"telegrams 1 2 3 -1 0 0\n", nil, 0, api.ErrSyntax}, {"1 2 3 -1 0 0\n", nil, 0, api.ErrSyntax}, {"telegram1 2 3 -1 0 0\n", nil, 0, api.ErrSyntax},
		{"telegram 256 2 3 -1 0 0\n", nil, 1, api.ErrRange}, {line + "telegram 0 0 0 0 0 32768\n" + line, nil, 3, api.ErrRange}, {"telegram -1 0 0 0 0 0\n", nil, 1, api.ErrRange}, {"telegram 0 999999999 0 0 0 0\n", nil, 1, api.ErrRange}, {"telegram 0 0 -999999999 0 0 0\n", nil, 1, api.ErrRange},
		{"telegram 256 2 3 -1 0 0\nx\n", nil, 1, api.ErrSyntax}, {"telegram 256 2 3 -1 0 0\n" + line + "telegram 1", nil, 2, api.ErrSyntax},
		{strings.Repeat(line, 1025), nil, 1025, api.ErrMany}, {strings.Repeat("telegram 256 0 0 0 0 0\n", 1025), nil, 1025, api.ErrMany}, {strings.Repeat(line, 2000) + "x\n" + line, nil, 2000, api.ErrSyntax},
		{strings.Repeat("\n", 1000000), nil, 0, api.ErrSyntax}, {strings.Repeat("\n", 1000001), nil, 0, api.ErrLong}, {strings.Repeat(line, 50000), nil, 0, api.ErrLong},
		{strings.Repeat("x", 1000000), nil, 0, api.ErrSyntax}, {"telegram 0 0 0 0 0 " + strings.Repeat("0", 1000) + "\n", nil, 0, api.ErrSyntax},
	} {
		l, at, e := phasor.Parse(x.s)
		what := strconv.Quote(x.s[:min(len(x.s), 60)])
		sameList(t, what, l, x.l)
		same(t, what+": index", at, x.at)
		same(t, what+": error", e, x.e)
	}
}

// P1.5: integers have one way to be written, at each place.
func TestParseIntegers(t *testing.T) {
	for word, want := range map[string]api.Errno{
		"0": api.OK, "1": api.OK, "10": api.OK, "100": api.OK, "255": api.OK, "9": api.OK,
		"": api.ErrSyntax, "-": api.ErrSyntax, "-0": api.ErrSyntax, "00": api.ErrSyntax, "01": api.ErrSyntax, "-01": api.ErrSyntax, "-00": api.ErrSyntax, "000000001": api.ErrSyntax, "007": api.ErrSyntax,
		"+1": api.ErrSyntax, "+0": api.ErrSyntax, "--1": api.ErrSyntax, "1-": api.ErrSyntax, "1.0": api.ErrSyntax, "1e1": api.ErrSyntax, "0x1": api.ErrSyntax, "1_0": api.ErrSyntax, "a": api.ErrSyntax, "1a": api.ErrSyntax, "a1": api.ErrSyntax, "٣": api.ErrSyntax, "1\x00": api.ErrSyntax, "\t1": api.ErrSyntax, "/": api.ErrSyntax, ":": api.ErrSyntax, "\xff": api.ErrSyntax,
		"1000000000": api.ErrSyntax, "-1000000000": api.ErrSyntax, "0000000000": api.ErrSyntax, "9999999999": api.ErrSyntax, "99999999999999999999999": api.ErrSyntax,
		"999999999": api.ErrRange, "-999999999": api.ErrRange, "123456789": api.ErrRange, "-100000000": api.ErrRange,
	} {
		for place := 1; place <= 6; place++ {
			words := []string{"telegram", "1", "1", "1", "1", "1", "1"}
			words[place] = word
			l, at, e := phasor.Parse(strings.Join(words, " ") + "\n")
			what := strconv.Quote(word) + " as number " + strconv.Itoa(place)
			same(t, what, e, want)
			same(t, what+": telegrams", len(l), map[bool]int{true: 1, false: 0}[want == api.OK])
			same(t, what+": index", at, map[bool]int{true: 1, false: 0}[want == api.ErrRange])
		}
	}
	for _, n := range []int{-1, -9, -10, -32768, 32767} {
		l, _, e := phasor.Parse("telegram 0 0 0 0 0 " + strconv.Itoa(n) + "\n")
		same(t, "error", e, api.OK)
		sameList(t, "telegrams", l, []phasor.Telegram{{Values: [4]int{0, 0, 0, n}}})
	}
}

// P1.5
func TestParseAsPrinted(t *testing.T) {
	l := telegrams(rand.New(rand.NewSource(5)), 200)
	var text strings.Builder
	for _, x := range l {
		text.WriteString("telegram")
		for _, n := range []int{x.Source, x.Counter, x.Values[0], x.Values[1], x.Values[2], x.Values[3]} {
			text.WriteString(" " + strconv.Itoa(n))
		}
		text.WriteString("\n")
	}
	s, e := phasor.Print(l)
	same(t, "text", s, text.String())
	same(t, "error", e, api.OK)
	back, at, e := phasor.Parse(text.String())
	sameList(t, "telegrams", back, l)
	same(t, "index", at, 0)
	same(t, "error", e, api.OK)
}
