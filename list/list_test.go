package list_test

import (
	"slices"
	"strconv"
	"testing"

	"bipole/list"
)

// P1, P2, P3: each element is mapped at its place, into memory of its own.
func TestMapped(t *testing.T) {
	l := []int{3, -1, 3}
	if got := list.Mapped(l, strconv.Itoa); !slices.Equal(got, []string{"3", "-1", "3"}) {
		t.Errorf("texts of %v: got %v", l, got)
	}
	same := list.Mapped(l, func(n int) int { return n })
	clear(same)
	if !slices.Equal(l, []int{3, -1, 3}) {
		t.Errorf("the argument after the result is changed: got %v", l)
	}
	if got := list.Mapped(nil, strconv.Itoa); len(got) != 0 {
		t.Errorf("texts of nothing: got %v", got)
	}
}
