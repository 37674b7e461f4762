package sets_test

import (
	"cmp"
	"slices"
	"testing"

	"ceroplast/sets"
)

func TestHas(t *testing.T) {
	for thing, want := range []bool{true, false, true, true, false, false} {
		if got := sets.Has(13, thing); got != want {
			t.Errorf("Has of 13, %d = %t", thing, got)
		}
	}
}

func TestList(t *testing.T) {
	for _, c := range []struct {
		set  int
		want []int
	}{{0, nil}, {1, []int{0}}, {13, []int{0, 2, 3}}, {1 << 20, []int{20}}} {
		if got := sets.List(c.set); !slices.Equal(got, c.want) {
			t.Errorf("List of %d = %v", c.set, got)
		}
	}
}

func TestFewer(t *testing.T) {
	for a := range 1 << 6 {
		for b := range 1 << 6 {
			one, other := sets.List(a), sets.List(b)
			want := cmp.Or(cmp.Compare(len(one), len(other)), slices.Compare(one, other)) < 0
			if got := sets.Fewer(a, b); got != want {
				t.Errorf("Fewer of %v, %v = %t", one, other, got)
			}
		}
	}
}

func TestFewest(t *testing.T) {
	for i, c := range []struct {
		things int
		does   func(set int) bool
		want   []int
	}{
		{0, func(int) bool { return false }, nil},
		{3, func(int) bool { return false }, []int{0, 1, 2}},
		{3, func(int) bool { return true }, nil},
		{4, func(set int) bool { return sets.Has(set, 1) || sets.Has(set, 2) }, []int{1}},
		{4, func(set int) bool { return set == 12 || set == 10 || set == 7 }, []int{1, 3}},
		{4, func(set int) bool { return sets.Has(set, 0) != sets.Has(set, 3) && sets.Has(set, 2) }, []int{0, 2}},
	} {
		if got := sets.List(sets.Fewest(c.things, c.does)); !slices.Equal(got, c.want) {
			t.Errorf("%d: Fewest = %v", i, got)
		}
	}
}
