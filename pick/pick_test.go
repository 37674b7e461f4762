package pick_test

import (
	"cmp"
	"slices"
	"testing"

	"ceroplast/pick"
)

// thing is of a size, which is compared, and has a name, which is not.
type thing struct {
	size int
	name string
}

func TestLeast(t *testing.T) {
	for i, c := range []struct {
		things []thing
		want   thing
		found  bool
	}{
		{nil, thing{}, false},
		{[]thing{{3, "a"}}, thing{3, "a"}, true},
		{[]thing{{0, "a"}, {-2, "b"}, {5, "c"}}, thing{-2, "b"}, true},
		{[]thing{{7, "a"}, {4, "b"}, {4, "c"}, {5, "d"}, {4, "e"}}, thing{4, "b"}, true},
		{[]thing{{4, "a"}, {4, "b"}}, thing{4, "a"}, true},
	} {
		got, found := pick.Least(slices.Values(c.things), func(a, b thing) int { return cmp.Compare(a.size, b.size) })
		if got != c.want || found != c.found {
			t.Errorf("%d: Least = %v, %t", i, got, found)
		}
	}
}
