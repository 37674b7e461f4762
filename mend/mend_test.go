package mend_test

import (
	"fmt"
	"math"
	"slices"
	"strings"
	"testing"

	"ceroplast/api"
	"ceroplast/mend"
)

// whatever is what a figure wants that any part will do for.
const whatever = api.MeAny

func kinds(list ...int) []int { return list }

// steps are steps: both figures of each, one after the other.
func steps(figures ...int) []api.MeStep {
	var list []api.MeStep
	for pair := range slices.Chunk(figures, 2) {
		list = append(list, api.MeStep{A: pair[0], B: pair[1]})
	}
	return list
}

// inLine are so many figures of which each stands side by side with the next one.
func inLine(figures int) []api.MeStep {
	var beside []api.MeStep
	for i := range max(0, figures-1) {
		beside = append(beside, api.MeStep{A: i, B: i + 1})
	}
	return beside
}

// allBeside are so many figures that all stand side by side.
func allBeside(figures int) []api.MeStep {
	var beside []api.MeStep
	for a := range figures {
		for b := a + 1; b < figures; b++ {
			beside = append(beside, api.MeStep{A: a, B: b})
		}
	}
	return beside
}

// rowOf is a row of figures a, b and so on, in a line and without a bench.
func rowOf(has, wants []int) api.MeRow {
	r := api.MeRow{Beside: inLine(len(has)), Bench: api.MeNone}
	for i := range has {
		r.Figures = append(r.Figures, api.MeFigure{Name: string(rune('a' + i)), Has: has[i], Wants: wants[i]})
	}
	return r
}

// changed is a row that something was done to.
func changed(r api.MeRow, do func(r *api.MeRow)) api.MeRow {
	r.Figures, r.Beside = slices.Clone(r.Figures), slices.Clone(r.Beside)
	do(&r)
	return r
}

// standing is a row whose figures stand side by side so.
func standing(r api.MeRow, figures ...int) api.MeRow {
	r.Beside = steps(figures...)
	return r
}

// benched is a row with the bench at a figure.
func benched(r api.MeRow, bench int) api.MeRow {
	r.Bench = bench
	return r
}

// broken is a row in which the parts of some figures are broken.
func broken(r api.MeRow, figures ...int) api.MeRow {
	return changed(r, func(r *api.MeRow) {
		for _, i := range figures {
			r.Figures[i].Broken = true
		}
	})
}

// exampleR is R of the chapter's examples, and so are N, Q and E.
func exampleR() api.MeRow {
	return benched(broken(rowOf(kinds(1, 0, 2, 3), kinds(0, 1, 3, whatever)), 3), 1)
}

func exampleN() api.MeRow { return benched(exampleR(), api.MeNone) }

func exampleQ() api.MeRow {
	return standing(rowOf(kinds(1, 2, 0, 3), kinds(0, 1, 2, 3)), 0, 1, 0, 2, 0, 3, 1, 2, 1, 3, 2, 3)
}

func exampleE() api.MeRow { return rowOf(kinds(3, 1, 2, 0), kinds(0, 1, 2, 3)) }

// large is a row with as many figures, and as many broken parts, as there can be.
func large() api.MeRow {
	r := rowOf(kinds(5, 4, 3, 2, 1), kinds(1, 2, 3, 4, 5))
	r.Beside = allBeside(api.MaxMeFigures)
	return benched(broken(r, 0, 1, 2, 3, 4), 4)
}

// change is something that is done to R, and what Check says of it then.
type change struct {
	name     string
	do       func(r *api.MeRow)
	part, at int
	e        api.Errno
}

func (c change) row() api.MeRow { return changed(exampleR(), c.do) }

// outside are numbers that are not from lo to hi.
func outside(lo, hi int) []int { return []int{math.MinInt, lo - 1, hi + 1, math.MaxInt} }

func badFigures() []change {
	one := func(name string, at int, f api.MeFigure, e api.Errno) change {
		return change{"a figure: " + name, func(r *api.MeRow) { r.Figures[at] = f }, 1, at, e}
	}
	changes := []change{
		{"6 figures", func(r *api.MeRow) { *r = rowOf(make([]int, 6), make([]int, 6)) }, 1, 0, api.ErrLong},
		{"too many figures before a wrong one", func(r *api.MeRow) { r.Figures = make([]api.MeFigure, 1000) }, 1, 0, api.ErrLong},
		{"too many figures before pairs", func(r *api.MeRow) { r.Figures, r.Beside = make([]api.MeFigure, 6), steps(9, 9) }, 1, 0, api.ErrLong},
		one("no name", 0, api.MeFigure{}, api.ErrForm),
		one("a name", 1, api.MeFigure{Name: "B"}, api.ErrForm),
		one("a long name", 3, api.MeFigure{Name: "abcdefghijklmnopq"}, api.ErrForm),
		one("a name before all else", 2, api.MeFigure{Name: "9", Has: -1, Wants: -2}, api.ErrForm),
		one("two of one name", 3, api.MeFigure{Name: "a"}, api.ErrTwice),
		one("two of one name before all else", 1, api.MeFigure{Name: "a", Has: 6, Wants: 6}, api.ErrTwice),
		{"the first wrong figure", func(r *api.MeRow) { r.Figures[1].Has, r.Figures[2].Name = 6, "" }, 1, 1, api.ErrRange},
		{"a name that is there later", func(r *api.MeRow) { r.Figures[0].Name = "d" }, 1, 3, api.ErrTwice},
		{"a figure before pairs", func(r *api.MeRow) { r.Figures[3].Wants, r.Beside = 6, steps(9, 9) }, 1, 3, api.ErrRange},
		{"a figure before the bench", func(r *api.MeRow) { r.Figures[3].Name, r.Bench = "", 9 }, 1, 3, api.ErrForm},
	}
	for _, n := range outside(0, 5) {
		changes = append(changes, one(fmt.Sprint("Has ", n), 1, api.MeFigure{Name: "x", Has: n, Wants: 1}, api.ErrRange))
	}
	for _, n := range outside(whatever, 5) {
		changes = append(changes, one(fmt.Sprint("Wants ", n), 3, api.MeFigure{Name: "x", Wants: n}, api.ErrRange))
	}
	return changes
}

func badPairs() []change {
	all := func(name string, at int, e api.Errno, figures ...int) change {
		return change{"a pair: " + name, func(r *api.MeRow) { r.Beside = steps(figures...) }, 2, at, e}
	}
	changes := []change{
		all("no such figure before A is B", 1, api.ErrNone, 0, 1, 4, 4),
		all("no such figure before A is above B", 0, api.ErrNone, 4, 0),
		all("no such figure before twice", 0, api.ErrNone, 0, 4, 0, 4),
		all("A is B", 1, api.ErrArg, 0, 1, 2, 2),
		all("A is B, and the bench", 0, api.ErrArg, 1, 1),
		all("A is above B", 2, api.ErrArg, 0, 1, 1, 2, 3, 0),
		all("the same the other way round", 1, api.ErrArg, 0, 1, 1, 0),
		all("A is B before twice", 0, api.ErrArg, 2, 2, 2, 2),
		all("twice", 1, api.ErrTwice, 0, 1, 0, 1),
		all("twice, but not at once", 3, api.ErrTwice, 1, 3, 0, 1, 1, 2, 1, 3),
		all("the first wrong pair", 1, api.ErrArg, 0, 1, 3, 2, 9, 9, 0, 1),
		{"1000 pairs", func(r *api.MeRow) { r.Beside = slices.Repeat(r.Beside, 1000) }, 2, 3, api.ErrTwice},
		{"a pair before the bench", func(r *api.MeRow) { r.Beside, r.Bench = steps(1, 0), 9 }, 2, 0, api.ErrArg},
		{"a figure that is not there any more", func(r *api.MeRow) { r.Figures = r.Figures[:3] }, 2, 2, api.ErrNone},
		{"no figures any more", func(r *api.MeRow) { r.Figures = nil }, 2, 0, api.ErrNone},
	}
	for _, n := range outside(0, 3) {
		changes = append(changes, all(fmt.Sprint("A ", n), 1, api.ErrNone, 0, 1, n, 3), all(fmt.Sprint("B ", n), 2, api.ErrNone, 0, 1, 0, 2, 0, n))
	}
	return changes
}

func badBenches() []change {
	changes := []change{
		{"no row at all", func(r *api.MeRow) { *r = api.MeRow{} }, 3, 0, api.ErrNone},
		{"a bench, but no figures", func(r *api.MeRow) { *r = api.MeRow{Bench: 3} }, 3, 0, api.ErrNone},
		{"a bench at a figure that is not there any more", func(r *api.MeRow) { r.Figures, r.Beside, r.Bench = r.Figures[:2], steps(0, 1), 2 }, 3, 0, api.ErrNone},
	}
	for _, n := range outside(api.MeNone, 3) {
		changes = append(changes, change{fmt.Sprint("Bench ", n), func(r *api.MeRow) { r.Bench = n }, 3, 0, api.ErrNone})
	}
	return changes
}

func badRows() []change { return slices.Concat(badFigures(), badPairs(), badBenches()) }

func goodRows() []change {
	changes := []change{
		{name: "no figures", do: func(r *api.MeRow) { *r = api.MeRow{Bench: api.MeNone} }},
		{name: "one figure", do: func(r *api.MeRow) { *r = api.MeRow{Figures: []api.MeFigure{{Name: "a"}}} }},
		{name: "no pairs", do: func(r *api.MeRow) { r.Beside = nil }},
		{name: "pairs in another order", do: func(r *api.MeRow) { slices.Reverse(r.Beside) }},
		{name: "all pairs", do: func(r *api.MeRow) { r.Beside = allBeside(4) }},
		{name: "the greatest numbers", do: func(r *api.MeRow) {
			*r = benched(rowOf(kinds(5, 5, 5, 5, 5), kinds(5, 5, 5, 5, 5)), 4)
			r.Beside = allBeside(5)
			r.Figures[0].Name, r.Figures[4].Name = "abcdefghijklmnop", "z.9"
		}},
		{name: "the least numbers", do: func(r *api.MeRow) {
			*r = rowOf(kinds(0, 0), kinds(whatever, whatever))
		}},
		{name: "all broken", do: func(r *api.MeRow) { *r = broken(*r, 0, 1, 2, 3) }},
	}
	for bench := range 4 {
		changes = append(changes, change{name: fmt.Sprint("the bench at ", bench), do: func(r *api.MeRow) { r.Bench = bench }})
	}
	for name, r := range map[string]api.MeRow{"R": exampleR(), "N": exampleN(), "Q": exampleQ(), "E": exampleE(), "large": large()} {
		changes = append(changes, change{name: name, do: func(x *api.MeRow) { *x = r }})
	}
	return changes
}

func TestP11_1Check(t *testing.T) {
	for _, c := range slices.Concat(badRows(), goodRows()) {
		if part, at, e := mend.Check(c.row()); part != c.part || at != c.at || e != c.e {
			t.Errorf("%s: Check = %d, %d, %d, not %d, %d, %d", c.name, part, at, e, c.part, c.at, c.e)
		}
	}
}

// callAll calls every function, and returns all results as a text.
func callAll(r api.MeRow, list []api.MeStep, many, a, b int) string {
	var out []any
	call := func(results ...any) { out = append(out, results...) }
	call(mend.Check(r))
	call(mend.Wrong(r))
	call(mend.Done(r, list))
	call(mend.Fewest(r))
	call(mend.Most(r))
	call(mend.Reach(r, many))
	call(mend.Loops(r))
	call(mend.Gain(r, a, b))
	return fmt.Sprint(out...)
}

func TestErrorOfTheRowComesFirst(t *testing.T) {
	for _, c := range badRows() {
		r, e := c.row(), c.e
		want := fmt.Sprint(c.part, c.at, e, []int(nil), e, api.MeRow{}, e, []api.MeStep(nil), e, 0, 0, e, 0, e, [][]int(nil), e, 0, e)
		for _, n := range []int{0, -1, 21, math.MaxInt} {
			for _, list := range [][]api.MeStep{nil, steps(0, 1), steps(n, n), make([]api.MeStep, 21)} {
				if got := callAll(r, list, n, n, n); got != want {
					t.Fatalf("%s: %v, %d: %s, not %s", c.name, list, n, got, want)
				}
			}
		}
	}
}

func TestP11_2Wrong(t *testing.T) {
	for i, c := range []struct {
		r    api.MeRow
		want []int
	}{
		{exampleR(), kinds(0, 1, 2)},
		{exampleN(), kinds(0, 1, 2)},
		{exampleQ(), kinds(0, 1, 2)},
		{exampleE(), kinds(0, 3)},
		{large(), kinds(0, 1, 2, 3, 4)},
		{rowOf(nil, nil), nil},
		{rowOf(kinds(5, 0, 3), kinds(5, 0, 3)), nil},
		{rowOf(kinds(0), kinds(1)), kinds(0)},
		{rowOf(kinds(1), kinds(0)), kinds(0)},
		{rowOf(kinds(0, 5, 2), kinds(whatever, whatever, 3)), kinds(2)},
		// broken parts are wrong, but not where any will do
		{broken(rowOf(kinds(4, 4, 4), kinds(4, whatever, 4)), 0, 1), kinds(0)},
		{broken(rowOf(kinds(4, 4, 4), kinds(4, whatever, 4)), 1, 2), kinds(2)},
		{broken(rowOf(kinds(0), kinds(0)), 0), kinds(0)},
		{broken(rowOf(kinds(0), kinds(1)), 0), kinds(0)},
		// the bench does not matter
		{benched(broken(rowOf(kinds(0), kinds(0)), 0), 0), kinds(0)},
	} {
		if got, e := mend.Wrong(c.r); !slices.Equal(got, c.want) || e != api.OK {
			t.Errorf("%d: Wrong = %v, %d, not %v", i, got, e, c.want)
		}
	}
}

func TestP11_2Done(t *testing.T) {
	one := benched(broken(rowOf(kinds(2), kinds(2)), 0), 0)
	for i, c := range []struct {
		r      api.MeRow
		steps  []api.MeStep
		has    []int
		broken []int
	}{
		{exampleR(), steps(2, 3, 1, 2, 1, 1), kinds(1, 3, 0, 2), nil},
		{exampleR(), nil, kinds(1, 0, 2, 3), kinds(3)},
		{exampleR(), steps(0, 1), kinds(0, 1, 2, 3), kinds(3)},
		{exampleR(), steps(2, 3), kinds(1, 0, 3, 2), kinds(2)},
		{exampleR(), steps(2, 3, 1, 2), kinds(1, 3, 0, 2), kinds(1)},
		{exampleR(), steps(2, 3, 1, 2, 0, 1), kinds(3, 1, 0, 2), kinds(0)},
		{exampleR(), steps(2, 3, 2, 3), kinds(1, 0, 2, 3), kinds(3)},
		{exampleR(), steps(0, 1, 1, 2, 0, 1), kinds(2, 0, 1, 3), kinds(3)},
		{exampleR(), slices.Repeat(steps(0, 1), 20), kinds(1, 0, 2, 3), kinds(3)},
		{exampleR(), slices.Repeat(steps(0, 1), 19), kinds(0, 1, 2, 3), kinds(3)},
		{exampleN(), steps(2, 3, 1, 2), kinds(1, 3, 0, 2), kinds(1)},
		{benched(exampleR(), 3), steps(3, 3), kinds(1, 0, 2, 3), nil},
		{benched(exampleR(), 3), steps(3, 3, 2, 3), kinds(1, 0, 3, 2), nil},
		{exampleQ(), steps(0, 3, 1, 2), kinds(3, 0, 2, 1), nil},
		{exampleE(), steps(0, 1, 1, 2, 2, 3), kinds(1, 2, 0, 3), nil},
		{one, steps(0, 0), kinds(2), nil},
		// one after the other is mended
		{benched(broken(rowOf(kinds(1, 2), kinds(1, 2)), 0, 1), 0), steps(0, 0, 0, 1, 0, 0), kinds(2, 1), nil},
		{benched(broken(rowOf(kinds(1, 2), kinds(1, 2)), 0, 1), 0), steps(0, 0, 0, 1), kinds(2, 1), kinds(0)},
		// parts that are the same are exchanged, too
		{rowOf(kinds(1, 1), kinds(1, 1)), steps(0, 1), kinds(1, 1), nil},
		{broken(rowOf(kinds(1, 1), kinds(1, 1)), 0), steps(0, 1), kinds(1, 1), kinds(1)},
		{rowOf(nil, nil), nil, nil, nil},
	} {
		want := changed(c.r, func(r *api.MeRow) {
			for i, n := range c.has {
				r.Figures[i].Has, r.Figures[i].Broken = n, slices.Contains(c.broken, i)
			}
		})
		if got, e := mend.Done(c.r, c.steps); fmt.Sprint(got) != fmt.Sprint(want) || e != api.OK {
			t.Errorf("%d: Done = %v, %d, not %v", i, got, e, want)
		}
	}
}

func TestP11_2DoneErrors(t *testing.T) {
	many := slices.Repeat(steps(0, 1), 18)
	for i, c := range []struct {
		r     api.MeRow
		steps []api.MeStep
		e     api.Errno
	}{
		// too many
		{exampleR(), slices.Repeat(steps(0, 1), 21), api.ErrLong},
		{exampleR(), slices.Repeat(steps(9, 9), 21), api.ErrLong},
		{exampleR(), slices.Repeat(steps(1, 1), 1000), api.ErrLong},
		{rowOf(nil, nil), make([]api.MeStep, 21), api.ErrLong},
		{rowOf(nil, nil), make([]api.MeStep, 20), api.ErrNone},
		// not there
		{exampleR(), steps(0, 2), api.ErrNone},
		{exampleR(), steps(1, 0), api.ErrNone},
		{exampleR(), steps(0, 0), api.ErrNone},
		{exampleR(), steps(3, 3), api.ErrNone},
		{exampleR(), steps(4, 4), api.ErrNone},
		{exampleR(), steps(-1, -1), api.ErrNone},
		{exampleR(), steps(1, -1), api.ErrNone},
		{exampleR(), steps(math.MinInt, math.MaxInt), api.ErrNone},
		{exampleR(), steps(0, 1, 2, 3, 0, 3), api.ErrNone},
		{exampleN(), steps(-1, -1), api.ErrNone},
		{exampleN(), steps(1, 1), api.ErrNone},
		{exampleN(), steps(0, 0), api.ErrNone},
		{benched(exampleR(), 0), steps(1, 1), api.ErrNone},
		{rowOf(nil, nil), steps(-1, -1), api.ErrNone},
		// not broken
		{exampleR(), steps(1, 1), api.ErrZero},
		{exampleR(), steps(2, 3, 1, 1), api.ErrZero},
		{exampleR(), steps(2, 3, 1, 2, 0, 1, 1, 1), api.ErrZero},
		{exampleR(), steps(2, 3, 1, 2, 1, 1, 1, 1), api.ErrZero},
		{exampleQ(), steps(0, 0), api.ErrNone},
		{benched(exampleQ(), 0), steps(0, 0), api.ErrZero},
		// the first one that cannot be done decides
		{exampleR(), steps(1, 1, 0, 2), api.ErrZero},
		{exampleR(), steps(0, 2, 1, 1), api.ErrNone},
		{exampleR(), slices.Concat(many, steps(0, 3, 1, 1)), api.ErrNone},
		{exampleR(), slices.Concat(many, steps(1, 1, 0, 3)), api.ErrZero},
		{exampleR(), slices.Concat(many, steps(2, 3, 1, 2, 1, 1)), api.ErrLong},
	} {
		if got, e := mend.Done(c.r, c.steps); fmt.Sprint(got) != fmt.Sprint(api.MeRow{}) || e != c.e {
			t.Errorf("%d: Done = %v, %d, not %d", i, got, e, c.e)
		}
	}
}

// search is a row, and what Fewest and Most say of it.
type search struct {
	r           api.MeRow
	fewest      []api.MeStep
	e           api.Errno
	wrong, most int
}

func searches() []search {
	twice := broken(rowOf(kinds(1, 1), kinds(1, 1)), 0, 1)
	return []search{
		{exampleR(), steps(0, 1, 2, 3, 1, 2, 1, 1, 1, 2), api.OK, 0, 5},
		{exampleN(), nil, api.ErrDown, 1, 1},
		{exampleQ(), steps(0, 1, 0, 2), api.OK, 0, 2},
		{exampleE(), steps(0, 1, 1, 2, 2, 3, 1, 2, 0, 1), api.OK, 0, 5},
		// nothing is to be done
		{rowOf(nil, nil), nil, api.OK, 0, 0},
		{rowOf(kinds(3), kinds(3)), nil, api.OK, 0, 0},
		{rowOf(kinds(1, 2, 3), kinds(1, 2, 3)), nil, api.OK, 0, 0},
		{broken(rowOf(kinds(1, 2, 3), kinds(1, whatever, 3)), 1), nil, api.OK, 0, 0},
		{benched(broken(rowOf(kinds(1, 2), kinds(1, whatever)), 1), 1), nil, api.OK, 0, 0},
		// there is no such part
		{rowOf(kinds(1), kinds(2)), nil, api.ErrDown, 1, 0},
		{rowOf(kinds(1, 2), kinds(1, 1)), nil, api.ErrDown, 1, 0},
		{rowOf(kinds(2, 1), kinds(1, 3)), nil, api.ErrDown, 1, 1},
		{rowOf(kinds(2, 1, 0), kinds(1, 2, 3)), nil, api.ErrDown, 1, 1},
		{rowOf(kinds(4, 5, 0), kinds(1, 2, 3)), nil, api.ErrDown, 3, 0},
		{benched(broken(rowOf(kinds(1), kinds(2)), 0), 0), nil, api.ErrDown, 1, 0},
		// it cannot be brought there
		{standing(rowOf(kinds(1, 2), kinds(2, 1))), nil, api.ErrDown, 2, 0},
		{standing(rowOf(kinds(1, 0, 2), kinds(0, 2, 1)), 0, 1), nil, api.ErrDown, 2, 1},
		{standing(rowOf(kinds(1, 2, 2, 1), kinds(2, 1, 1, 2)), 0, 1, 2, 3), steps(0, 1, 2, 3), api.OK, 0, 2},
		{standing(rowOf(kinds(1, 2, 2, 1), kinds(2, 1, 1, 2)), 2, 3), nil, api.ErrDown, 2, 1},
		// what is broken is mended, or given to who does not mind
		{broken(rowOf(kinds(1, 1), kinds(1, whatever)), 0), steps(0, 1), api.OK, 0, 1},
		{benched(broken(rowOf(kinds(1, 1), kinds(1, whatever)), 0), 0), steps(0, 0), api.OK, 0, 1},
		{benched(broken(rowOf(kinds(1, 1), kinds(1, whatever)), 0), 1), steps(0, 1), api.OK, 0, 1},
		{broken(rowOf(kinds(1, 1), kinds(1, 1)), 0), nil, api.ErrDown, 1, 0},
		{broken(rowOf(kinds(1, 2, 1), kinds(1, 2, 3)), 0), nil, api.ErrDown, 1, 3},
		{broken(rowOf(kinds(4), kinds(4)), 0), nil, api.ErrDown, 1, 0},
		{benched(broken(rowOf(kinds(4), kinds(4)), 0), 0), steps(0, 0), api.OK, 0, 1},
		{benched(twice, 1), steps(1, 1, 0, 1, 1, 1), api.OK, 0, 3},
		{benched(twice, 0), steps(0, 0, 0, 1, 0, 0), api.OK, 0, 3},
		{benched(standing(twice), 0), nil, api.ErrDown, 1, 1},
		{twice, nil, api.ErrDown, 2, 0},
		{benched(exampleR(), 3), steps(0, 1, 3, 3, 2, 3), api.OK, 0, 3},
		{benched(broken(rowOf(kinds(2, 1), kinds(1, 2)), 0), 0), steps(0, 0, 0, 1), api.OK, 0, 2},
		{benched(broken(rowOf(kinds(2, 1), kinds(1, 2)), 0), 1), steps(0, 1, 1, 1), api.OK, 0, 2},
		{benched(broken(rowOf(kinds(2, 1), kinds(1, 2)), 1), 1), steps(1, 1, 0, 1), api.OK, 0, 2},
		// the first ones of several, in whatever order pairs are
		{rowOf(kinds(1, 1, 2), kinds(2, 1, 1)), steps(1, 2, 0, 1), api.OK, 0, 2},
		{standing(rowOf(kinds(1, 0, 3, 2), kinds(0, 1, 2, 3)), 2, 3, 0, 1, 1, 2), steps(0, 1, 2, 3), api.OK, 0, 2},
		{standing(rowOf(kinds(1, 2, 0), kinds(0, 1, 2)), 1, 2, 0, 2, 0, 1), steps(0, 1, 0, 2), api.OK, 0, 2},
		{standing(rowOf(kinds(3, 2, 1), kinds(1, 2, 3)), 1, 2, 0, 1), steps(0, 1, 1, 2, 0, 1), api.OK, 0, 3},
		{benched(broken(rowOf(kinds(2, 1, 1), kinds(1, 2, 1)), 2), 2), steps(0, 1, 2, 2), api.OK, 0, 2},
		{benched(broken(rowOf(kinds(1, 2, 1), kinds(1, 1, 2)), 0), 0), steps(0, 0, 1, 2), api.OK, 0, 2},
	}
}

func TestP11_3FewestMost(t *testing.T) {
	for i, c := range searches() {
		if got, e := mend.Fewest(c.r); !slices.Equal(got, c.fewest) || e != c.e {
			t.Errorf("%d: Fewest = %v, %d, not %v, %d", i, got, e, c.fewest, c.e)
		}
		if wrong, many, e := mend.Most(c.r); wrong != c.wrong || many != c.most || e != api.OK {
			t.Errorf("%d: Most = %d, %d, %d, not %d, %d", i, wrong, many, e, c.wrong, c.most)
		}
	}
}

func TestP11_4Reach(t *testing.T) {
	twice := broken(rowOf(kinds(1, 1), kinds(1, 1)), 0, 1)
	for i, c := range []struct {
		r    api.MeRow
		many []int // by 0 steps, by 1, and so on
	}{
		{exampleR(), kinds(1, 4, 9)},
		{exampleN(), kinds(1, 4, 9, 15, 20, 23, 24, 24)},
		{exampleE(), kinds(1, 4, 9, 15, 20, 23, 24, 24)},
		{exampleQ(), kinds(1, 7, 18, 24, 24)},
		{standing(exampleE()), kinds(1, 1, 1)},
		{standing(exampleE(), 0, 1, 2, 3), kinds(1, 3, 4, 4)},
		{standing(exampleE(), 1, 2), kinds(1, 2, 2)},
		{rowOf(nil, nil), kinds(1, 1, 1)},
		{rowOf(kinds(2), kinds(1)), kinds(1, 1)},
		// rows that look alike count once, whatever figures want
		{rowOf(kinds(1, 1), kinds(1, 2)), kinds(1, 1, 1)},
		{rowOf(kinds(1, 1, 2), kinds(1, 1, 1)), kinds(1, 2, 3, 3)},
		{rowOf(kinds(1, 2, 1), kinds(1, 1, 1)), kinds(1, 3, 3)},
		{rowOf(kinds(1, 1, 2, 2), kinds(1, 1, 1, 1)), kinds(1, 2, 4, 5, 6, 6)},
		// a broken part does not look like a whole one
		{broken(rowOf(kinds(1, 1), kinds(1, 1)), 0), kinds(1, 2, 2)},
		{twice, kinds(1, 1, 1)},
		{benched(twice, 1), kinds(1, 2, 3, 4, 4)},
		{benched(standing(twice), 1), kinds(1, 2, 2)},
		{benched(broken(rowOf(kinds(3), kinds(3)), 0), 0), kinds(1, 2, 2)},
		{benched(broken(rowOf(kinds(1, 1), kinds(1, 1)), 0), 0), kinds(1, 3, 3)},
		{benched(broken(rowOf(kinds(1, 1), kinds(1, 1)), 0), 1), kinds(1, 2, 3, 3)},
		{benched(rowOf(kinds(1, 1), kinds(1, 1)), 1), kinds(1, 1, 1)},
		{benched(broken(rowOf(kinds(1, 2), kinds(1, 1)), 0), 0), kinds(1, 3, 4, 4)},
	} {
		for n, want := range c.many {
			if got, e := mend.Reach(c.r, n); got != want || e != api.OK {
				t.Errorf("%d: Reach by %d = %d, %d, not %d", i, n, got, e, want)
			}
		}
		last := c.many[len(c.many)-1]
		if got, e := mend.Reach(c.r, 20); len(c.many) > 3 && got != last || e != api.OK {
			t.Errorf("%d: Reach by 20 = %d, %d, not %d", i, got, e, last)
		}
	}
}

func TestP11_4ReachErrors(t *testing.T) {
	for _, r := range []api.MeRow{exampleR(), exampleQ(), rowOf(nil, nil)} {
		for _, n := range outside(0, 20) {
			if got, e := mend.Reach(r, n); got != 0 || e != api.ErrRange {
				t.Errorf("%v: Reach by %d = %d, %d", r, n, got, e)
			}
		}
	}
}

func TestP11_5Loops(t *testing.T) {
	const ok, zero, twice, down = api.OK, api.ErrZero, api.ErrTwice, api.ErrDown
	for i, c := range []struct {
		r    api.MeRow
		want [][]int
		e    api.Errno
	}{
		{exampleQ(), [][]int{{0, 2, 1}}, ok},
		{exampleE(), [][]int{{0, 3}}, ok},
		{exampleN(), nil, zero},
		{rowOf(nil, nil), nil, ok},
		{rowOf(kinds(5), kinds(5)), nil, ok},
		{rowOf(kinds(4, 0, 2), kinds(4, 0, 2)), nil, ok},
		{rowOf(kinds(1, 2), kinds(2, 1)), [][]int{{0, 1}}, ok},
		{rowOf(kinds(5, 0, 3), kinds(5, 3, 0)), [][]int{{1, 2}}, ok},
		// which way a loop goes
		{rowOf(kinds(0, 1, 2), kinds(1, 2, 0)), [][]int{{0, 1, 2}}, ok},
		{rowOf(kinds(0, 1, 2), kinds(2, 0, 1)), [][]int{{0, 2, 1}}, ok},
		{rowOf(kinds(4, 2, 0, 1, 3), kinds(3, 4, 1, 2, 0)), [][]int{{0, 4, 2, 3, 1}}, ok},
		{rowOf(kinds(5, 4, 3, 2, 1), kinds(5, 1, 4, 3, 2)), [][]int{{1, 4, 3, 2}}, ok},
		// several
		{rowOf(kinds(1, 0, 3, 2), kinds(0, 1, 2, 3)), [][]int{{0, 1}, {2, 3}}, ok},
		{rowOf(kinds(0, 1, 2, 3), kinds(3, 2, 1, 0)), [][]int{{0, 3}, {1, 2}}, ok},
		{rowOf(kinds(0, 1, 2, 3, 4), kinds(2, 3, 4, 1, 0)), [][]int{{0, 2, 4}, {1, 3}}, ok},
		{rowOf(kinds(0, 1, 2, 3, 4), kinds(4, 3, 2, 1, 0)), [][]int{{0, 4}, {1, 3}}, ok},
		{rowOf(kinds(0, 1, 2, 3, 4), kinds(1, 0, 4, 2, 3)), [][]int{{0, 1}, {2, 4, 3}}, ok},
		// who stands beside whom, and where the bench is, does not matter
		{benched(standing(exampleQ()), 2), [][]int{{0, 2, 1}}, ok},
		// broken, or any
		{broken(rowOf(kinds(5), kinds(5)), 0), nil, zero},
		{rowOf(kinds(5), kinds(whatever)), nil, zero},
		{rowOf(kinds(1, 2, 3), kinds(2, 1, whatever)), nil, zero},
		{broken(rowOf(kinds(1, 2, 3), kinds(2, 1, 3)), 2), nil, zero},
		{broken(rowOf(kinds(1, 1, 3), kinds(1, 1, 3)), 2), nil, zero},
		{broken(rowOf(kinds(1, 2, 3), kinds(5, 5, 3)), 2), nil, zero},
		{rowOf(kinds(1, 1, 3), kinds(5, 5, whatever)), nil, zero},
		// two have the same
		{rowOf(kinds(1, 1), kinds(1, 1)), nil, twice},
		{rowOf(kinds(0, 3, 2, 3), kinds(0, 1, 2, 3)), nil, twice},
		{rowOf(kinds(1, 2, 1), kinds(5, 5, 5)), nil, twice},
		{rowOf(kinds(5, 5, 5, 5, 5), kinds(5, 5, 5, 5, 5)), nil, twice},
		// no such part, or two want the same
		{rowOf(kinds(5), kinds(0)), nil, down},
		{rowOf(kinds(1, 2), kinds(2, 3)), nil, down},
		{rowOf(kinds(1, 2), kinds(2, 2)), nil, down},
		{rowOf(kinds(1, 2, 3), kinds(1, 1, 3)), nil, down},
		{rowOf(kinds(0, 1, 2, 3, 4), kinds(0, 1, 2, 3, 5)), nil, down},
		{rowOf(kinds(0, 1, 2, 3, 4), kinds(4, 1, 2, 3, 4)), nil, down},
	} {
		if got, e := mend.Loops(c.r); !slices.EqualFunc(got, c.want, slices.Equal[[]int]) || e != c.e {
			t.Errorf("%d: Loops = %v, %d, not %v, %d", i, got, e, c.want, c.e)
		}
	}
}

func TestP11_6Gain(t *testing.T) {
	for i, c := range []struct {
		r       api.MeRow
		a, b, n int
	}{
		{exampleE(), 0, 3, 4},
		{exampleE(), 0, 2, 2},
		{exampleE(), 1, 3, 2},
		{exampleE(), 0, 1, 0},
		{exampleE(), 1, 2, 0},
		{exampleE(), 2, 3, 0},
		{exampleR(), 1, 3, 0},
		{exampleQ(), 0, 3, 0},
		{rowOf(kinds(1, 2, 3), kinds(3, 2, 1)), 0, 2, 2},
		{rowOf(kinds(1, 2, 3), kinds(1, 2, 3)), 0, 2, 0},
		{benched(broken(rowOf(kinds(1, 2, 3), kinds(1, 2, 3)), 0), 2), 0, 2, 2},
		{standing(rowOf(kinds(1, 2, 3), kinds(2, 3, 1)), 0, 2, 1, 2), 0, 1, 0},
		{standing(rowOf(kinds(1, 2, 3), kinds(2, 1, 3)), 0, 2, 1, 2), 0, 1, 2},
	} {
		if got, e := mend.Gain(c.r, c.a, c.b); got != c.n || e != api.OK {
			t.Errorf("%d: Gain of %d, %d = %d, %d, not %d", i, c.a, c.b, got, e, c.n)
		}
	}
}

func TestP11_6GainErrors(t *testing.T) {
	type pair struct{ a, b int }
	check := func(r api.MeRow, want api.Errno, pairs ...pair) {
		t.Helper()
		for _, p := range pairs {
			if got, e := mend.Gain(r, p.a, p.b); got != 0 || e != want {
				t.Errorf("%v: Gain of %d, %d = %d, %d, not %d", r, p.a, p.b, got, e, want)
			}
		}
	}
	for _, r := range []api.MeRow{exampleE(), exampleR(), exampleN()} {
		for _, n := range outside(0, 3) {
			check(r, api.ErrNone, pair{n, 3}, pair{0, n}, pair{n, n}, pair{n, 0}, pair{3, n})
		}
		check(r, api.ErrArg, pair{0, 0}, pair{3, 3}, pair{1, 0}, pair{3, 0}, pair{3, 2})
	}
	check(rowOf(nil, nil), api.ErrNone, pair{0, 0}, pair{0, 1})
	check(rowOf(kinds(1), kinds(2)), api.ErrArg, pair{0, 0})
	// it cannot be set right as it is
	check(exampleN(), api.ErrDown, pair{0, 1}, pair{0, 2}, pair{0, 3})
	check(standing(rowOf(kinds(1, 2), kinds(2, 1))), api.ErrDown, pair{0, 1})
	check(rowOf(kinds(1, 2), kinds(2, 2)), api.ErrDown, pair{0, 1})
}

// oddRows are R with something odd about it, in all that n can be.
func oddRows(n int) []api.MeRow {
	many := max(0, min(n, 1001))
	var rows []api.MeRow
	for _, do := range []func(r *api.MeRow){
		func(r *api.MeRow) { r.Figures = make([]api.MeFigure, many) },
		func(r *api.MeRow) { r.Figures = r.Figures[:min(many, 4)] },
		func(r *api.MeRow) { *r = api.MeRow{Figures: r.Figures[:min(many, 4)], Bench: n} },
		func(r *api.MeRow) { r.Figures[0].Name = strings.Repeat("a", many) },
		func(r *api.MeRow) { r.Figures[1].Name = strings.Repeat("\xff", many) },
		func(r *api.MeRow) { r.Figures[2].Has = n },
		func(r *api.MeRow) { r.Figures[3].Wants = n },
		func(r *api.MeRow) { r.Beside = make([]api.MeStep, many) },
		func(r *api.MeRow) { r.Beside = r.Beside[:min(many, 3)] },
		func(r *api.MeRow) { r.Beside[1].A = n },
		func(r *api.MeRow) { r.Beside[1].B = n },
		func(r *api.MeRow) { r.Beside = append(r.Beside, api.MeStep{A: n, B: n}) },
		func(r *api.MeRow) { r.Bench = n },
	} {
		rows = append(rows, changed(exampleR(), do))
	}
	return rows
}

func TestP11_15AnyArguments(t *testing.T) {
	rows := []api.MeRow{{}, exampleR(), exampleN(), exampleQ(), exampleE(), rowOf(nil, nil), {Figures: make([]api.MeFigure, 1000), Beside: make([]api.MeStep, 1000)}}
	for _, n := range []int{math.MinInt, -2, -1, 0, 1, 2, 3, 4, 5, 6, 16, 17, 20, 21, math.MaxInt} {
		rows = append(rows, oddRows(n)...)
	}
	for _, r := range rows {
		before := fmt.Sprint(r)
		for _, n := range []int{math.MinInt, -1, 0, 1, 3, 20, math.MaxInt} {
			list := append(steps(0, 1, 2, 3, n, n), make([]api.MeStep, max(0, min(n, 1000)))...)
			for many := range len(list) + 1 {
				if many > 4 && many < len(list) {
					continue
				}
				was := fmt.Sprint(list)
				first := callAll(r, list[:many], n, n, many)
				if again := callAll(r, list[:many], n, n, many); again != first {
					t.Fatalf("%v, %d: %s, and then %s", r, n, first, again)
				}
				callAll(r, list[many:], many, 0, n)
				if fmt.Sprint(list) != was {
					t.Fatalf("%s was modified: %v", was, list)
				}
			}
		}
		if fmt.Sprint(r) != before {
			t.Errorf("%s was modified: %v", before, r)
		}
	}
}

func TestP11_15NewMemory(t *testing.T) {
	// Arguments have room behind their end, which is not to be written to, either.
	r := exampleR()
	r.Figures = append(make([]api.MeFigure, 0, 6), r.Figures...)
	r.Beside = append(make([]api.MeStep, 0, 6), r.Beside...)
	list := append(make([]api.MeStep, 0, 6), steps(2, 3, 1, 2, 1, 1)...)
	all := func() string { return fmt.Sprint(r, r.Figures[:6], r.Beside[:6], list[:6]) }
	before := all()
	text := callAll(r, list, 3, 0, 2)

	wrong, _ := mend.Wrong(r)
	fewest, _ := mend.Fewest(r)
	for i := range wrong {
		wrong[i] = 7
	}
	for i := range fewest {
		fewest[i] = api.MeStep{A: 7, B: 7}
	}
	_, _ = append(wrong, 8), append(fewest, api.MeStep{A: 8, B: 8})
	for _, some := range [][]api.MeStep{list, list[:1], nil} {
		done, e := mend.Done(r, some)
		if e != api.OK {
			t.Fatalf("Done of %v: %d", some, e)
		}
		for i := range done.Figures {
			done.Figures[i] = api.MeFigure{Name: "x", Has: 5}
		}
		for i := range done.Beside {
			done.Beside[i] = api.MeStep{A: 7, B: 7}
		}
		_, _ = append(done.Figures, api.MeFigure{Name: "y"}), append(done.Beside, api.MeStep{A: 8, B: 8})
	}
	if callAll(r, list, 3, 0, 2) != text || all() != before {
		t.Error("a result shares memory with an argument, or is kept")
	}
}

func TestP11_15LoopsAreNewMemory(t *testing.T) {
	r := rowOf(kinds(0, 1, 2, 3), kinds(1, 0, 3, 2))
	loops, e := mend.Loops(r)
	if len(loops) != 2 || e != api.OK {
		t.Fatalf("Loops = %v, %d", loops, e)
	}
	for i, loop := range loops {
		for at := range loop {
			loop[at] = 10 * i
		}
		_ = append(loop, 99, 99)
	}
	if want := [][]int{{0, 0}, {10, 10}}; !slices.EqualFunc(loops, want, slices.Equal[[]int]) {
		t.Errorf("two loops share memory: %v", loops)
	}
	if again, _ := mend.Loops(r); !slices.EqualFunc(again, [][]int{{0, 1}, {2, 3}}, slices.Equal[[]int]) {
		t.Errorf("Loops = %v the next time", again)
	}
}

func TestP11_15NilAndEmpty(t *testing.T) {
	for i, c := range []struct{ a, b api.MeRow }{
		{api.MeRow{}, api.MeRow{Figures: []api.MeFigure{}, Beside: []api.MeStep{}}},
		{api.MeRow{Bench: api.MeNone}, api.MeRow{Figures: []api.MeFigure{}, Beside: []api.MeStep{}, Bench: api.MeNone}},
		{standing(rowOf(kinds(1, 2), kinds(1, 2))), changed(rowOf(kinds(1, 2), kinds(1, 2)), func(r *api.MeRow) { r.Beside = []api.MeStep{} })},
	} {
		if a, b := callAll(c.a, nil, 2, 0, 1), callAll(c.b, []api.MeStep{}, 2, 0, 1); a != b {
			t.Errorf("%d: %s, and %s", i, a, b)
		}
	}
}
