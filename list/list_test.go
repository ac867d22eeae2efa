package list_test

import (
	"fmt"
	"maps"
	"slices"
	"strconv"
	"testing"

	"bipole/list"
)

// P1, P2, P3: each element is mapped at its place, into memory of its own.
func TestMapped(t *testing.T) {
	l := []int{3, -1, 3}
	if got := list.Mapped(l, strconv.Itoa); !slices.Equal(got, []string{"3", "-1", "3"}) {
		t.Errorf("texts of %v: got %v", l, got)
	}
	same := list.Mapped(l, func(n int) int { return n })
	clear(same)
	if !slices.Equal(l, []int{3, -1, 3}) {
		t.Errorf("the argument after the result is changed: got %v", l)
	}
	if got := list.Mapped(nil, strconv.Itoa); len(got) != 0 {
		t.Errorf("texts of nothing: got %v", got)
	}
}

// P9.1: the elements that are kept stay in their order, in memory of their own.
func TestFiltered(t *testing.T) {
	l := []int{3, -1, 4, -1, 5}
	positive := func(n int) bool { return n > 0 }
	got := list.Filtered(l, positive)
	if !slices.Equal(got, []int{3, 4, 5}) {
		t.Errorf("the positive ones of %v: got %v", l, got)
	}
	clear(got)
	if !slices.Equal(l, []int{3, -1, 4, -1, 5}) {
		t.Errorf("the argument after the result is changed: got %v", l)
	}
	if got := list.Filtered([]int{-1, 0}, positive); len(got) != 0 {
		t.Errorf("none: got %v", got)
	}
	if got := list.Filtered(nil, positive); len(got) != 0 {
		t.Errorf("those of nothing: got %v", got)
	}
}

// P8.1: of several elements with a key the last one counts.
func TestIndices(t *testing.T) {
	length := func(s string) int { return len(s) }
	if got, want := list.Indices([]string{"abc", "", "d", "efg"}, length), map[int]int{0: 1, 1: 2, 3: 3}; !maps.Equal(got, want) {
		t.Errorf("indices by lengths: got %v, want %v", got, want)
	}
	if got := list.Indices(nil, length); len(got) != 0 {
		t.Errorf("indices of nothing: got %v", got)
	}
}

// P1.4, P4.2: the element m is turned k m times for the index k, and all are
// added from left to right.
func TestTransformed(t *testing.T) {
	l := []string{"a", "b", "c"}
	turned := func(x string, times int) string { return fmt.Sprint(x, times, " ") }
	plus := func(a, b string) string { return a + b }
	if got, want := list.Transformed(l, turned, plus), []string{"a0 b0 c0 ", "a0 b1 c2 ", "a0 b2 c4 "}; !slices.Equal(got, want) {
		t.Errorf("transformed %v: got %q, want %q", l, got, want)
	}
	if !slices.Equal(l, []string{"a", "b", "c"}) {
		t.Errorf("the argument is changed: got %v", l)
	}
	if got := list.Transformed(nil, turned, plus); len(got) != 0 {
		t.Errorf("transformed nothing: got %v", got)
	}
}
