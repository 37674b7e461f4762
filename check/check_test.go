package check_test

import (
	"math"
	"slices"
	"testing"

	"ceroplast/api"
	"ceroplast/check"
)

// odd returns an odd number as its error.
func odd(_ []int, n int) api.Errno {
	if n%2 == 1 {
		return api.Errno(n)
	}
	return api.OK
}

func TestFirst(t *testing.T) {
	twice := func(before []int, n int) api.Errno {
		if slices.Contains(before, n) {
			return api.ErrTwice
		}
		return api.OK
	}
	for i, c := range []struct {
		things []int
		find   func([]int, int) api.Errno
		at     int
		e      api.Errno
	}{
		{nil, odd, 0, api.OK},
		{[]int{2, 4, 6}, odd, 0, api.OK},
		{[]int{3, 4, 6}, odd, 0, api.ErrLong},
		{[]int{2, 4, 5, 3}, odd, 2, api.ErrTwice},
		{[]int{1, 2, 3}, twice, 0, api.OK},
		{[]int{1, 2, 1, 2}, twice, 2, api.ErrTwice},
	} {
		if at, e := check.First(c.things, c.find); at != c.at || e != c.e {
			t.Errorf("%d: First = %d, %d", i, at, e)
		}
	}
}

func TestList(t *testing.T) {
	for i, c := range []struct {
		things []int
		most   int
		at     int
		e      api.Errno
	}{
		{nil, 0, 0, api.OK},
		{[]int{2, 4}, 2, 0, api.OK},
		{[]int{2, 4, 5, 7}, 4, 2, api.ErrTwice},
		{[]int{2, 4, 5, 7}, 3, 0, api.ErrLong},
		{[]int{2}, 0, 0, api.ErrLong},
	} {
		if at, e := check.List(c.things, c.most, odd); at != c.at || e != c.e {
			t.Errorf("%d: List = %d, %d", i, at, e)
		}
	}
}

func TestSpans(t *testing.T) {
	for i, c := range []struct {
		spans []api.Span
		want  api.Errno
	}{
		{nil, api.OK},
		{[]api.Span{{Lo: -2, Hi: 3}, {Lo: 3, Hi: 3}, {Lo: -2, Hi: -2}}, api.OK},
		{[]api.Span{{Lo: -3, Hi: 3}}, api.ErrRange},
		{[]api.Span{{Lo: -2, Hi: 4}}, api.ErrRange},
		{[]api.Span{{Lo: 4, Hi: 3}}, api.ErrRange},
		{[]api.Span{{Lo: 0, Hi: math.MinInt}}, api.ErrRange},
		{[]api.Span{{Lo: math.MaxInt, Hi: 0}}, api.ErrRange},
		{[]api.Span{{Lo: 1, Hi: 0}}, api.ErrArg},
		{[]api.Span{{}, {Lo: 3, Hi: -2}, {Lo: -3}}, api.ErrArg},
		{[]api.Span{{}, {Lo: -3}, {Lo: 3, Hi: -2}}, api.ErrRange},
	} {
		if got := check.Spans(-2, 3, c.spans...); got != c.want {
			t.Errorf("%d: Spans = %d", i, got)
		}
	}
}

func TestWithin(t *testing.T) {
	for i, c := range []struct {
		lo, hi  int
		numbers []int
		want    bool
	}{
		{1, 0, nil, true},
		{1, 3, []int{1, 2, 3}, true},
		{1, 3, []int{1, 2, 4}, false},
		{1, 3, []int{0, 2, 3}, false},
		{1, 3, []int{math.MinInt}, false},
		{1, 3, []int{2, math.MaxInt}, false},
	} {
		if got := check.Within(c.lo, c.hi, c.numbers...); got != c.want {
			t.Errorf("%d: Within = %t", i, got)
		}
	}
}

func TestIsIndex(t *testing.T) {
	for i, c := range []struct {
		things  int
		indices []int
		want    bool
	}{
		{0, nil, true},
		{0, []int{0}, false},
		{2, []int{0, 1}, true},
		{2, []int{0, 2}, false},
		{2, []int{-1, 0}, false},
		{2, []int{math.MinInt}, false},
	} {
		if got := check.IsIndex(c.things, c.indices...); got != c.want {
			t.Errorf("%d: IsIndex = %t", i, got)
		}
	}
}
