package bill_test

import (
	"fmt"
	"math"
	"slices"
	"strings"
	"testing"

	"ceroplast/api"
	"ceroplast/bill"
)

// Indices of the figures of the chapter's examples.
const (
	ada = 0
	ben = 1
	cy  = 2
	dot = 3
	eli = 4
)

// exampleText is the text of C of the chapter's examples.
const exampleText = "page 1\nroom 0\n1 is ada as queen\n2 is ben as king or cy as clown\npage 2\nroom 1\n3 may be dot as judge\n4 may be eli as nun\n"

func aFigure(name, as string, room, height int) api.BiFigure {
	return api.BiFigure{Name: name, As: as, Room: room, Height: height}
}

func is(a int) api.BiEntry { return api.BiEntry{Says: api.BiIs, A: a} }

func either(a, b int) api.BiEntry { return api.BiEntry{Says: api.BiEither, A: a, B: b} }

func may(a int) api.BiEntry { return api.BiEntry{Says: api.BiMay, A: a} }

func entries(list ...api.BiEntry) []api.BiEntry { return list }

// exampleS is S of the chapter's examples.
func exampleS() api.BiShow {
	return api.BiShow{
		Lines: 14,
		Figures: []api.BiFigure{
			aFigure("ada", "queen", 0, 5),
			aFigure("ben", "king", 0, 4),
			aFigure("cy", "clown", 0, 3),
			aFigure("dot", "judge", 1, 6),
			aFigure("eli", "nun", 1, 2),
		},
		Truths: []int{11, 29, 7},
	}
}

// exampleC is C of the chapter's examples.
func exampleC() []api.BiEntry { return entries(is(ada), either(ben, cy), may(dot), may(eli)) }

// lined is a show with other lines.
func lined(s api.BiShow, lines int) api.BiShow {
	s.Lines = lines
	return s
}

// oneRoom is a show of 30 lines of so many figures, of a line each, in one room.
func oneRoom(figures int, truths ...int) api.BiShow {
	s := api.BiShow{Lines: 30, Truths: truths}
	for i := range figures {
		s.Figures = append(s.Figures, aFigure(string(rune('a'+i)), "x", 2, 1))
	}
	return s
}

// stack is a show of figures of these heights, in one room, of which all surely arrive.
func stack(lines int, heights ...int) api.BiShow {
	s := lined(oneRoom(len(heights), 1<<len(heights)-1), lines)
	for i, height := range heights {
		s.Figures[i].Height = height
	}
	return s
}

// inRooms is a show whose figures are in these rooms.
func inRooms(s api.BiShow, rooms ...int) api.BiShow {
	return changed(s, func(s *api.BiShow) {
		for i, room := range rooms {
			s.Figures[i].Room = room
		}
	})
}

// allAre is the catalogue that says of all figures that they are shown.
func allAre(s api.BiShow) []api.BiEntry {
	var c []api.BiEntry
	for i := range s.Figures {
		c = append(c, is(i))
	}
	return c
}

func clone(s api.BiShow) api.BiShow {
	s.Figures = slices.Clone(s.Figures)
	s.Truths = slices.Clone(s.Truths)
	return s
}

// changed is a show that something was done to.
func changed(s api.BiShow, do func(s *api.BiShow)) api.BiShow {
	s = clone(s)
	do(&s)
	return s
}

// change is something that is done to S, and what Check says of it then.
type change struct {
	name     string
	do       func(s *api.BiShow)
	part, at int
	e        api.Errno
}

func (c change) show() api.BiShow { return changed(exampleS(), c.do) }

// outside are numbers that are not from lo to hi.
func outside(lo, hi int) []int { return []int{math.MinInt, lo - 1, hi + 1, math.MaxInt} }

func badLines() []change {
	changes := []change{
		{"lines before all else", func(s *api.BiShow) { *s = api.BiShow{Figures: make([]api.BiFigure, 7), Truths: make([]int, 7)} }, 1, 0, api.ErrRange},
		{"lines before figures", func(s *api.BiShow) { s.Lines, s.Figures[0].Name = 13, "" }, 1, 0, api.ErrRange},
	}
	for _, n := range append(outside(14, 30), 0, 1) {
		changes = append(changes, change{fmt.Sprint("lines ", n), func(s *api.BiShow) { s.Lines = n }, 1, 0, api.ErrRange})
	}
	return changes
}

func badFigures() []change {
	changes := []change{
		{"7 figures", func(s *api.BiShow) { s.Figures = oneRoom(7).Figures }, 2, 0, api.ErrLong},
		{"too many figures before a wrong one", func(s *api.BiShow) { s.Figures = make([]api.BiFigure, 7) }, 2, 0, api.ErrLong},
		{"too many figures before truths", func(s *api.BiShow) { s.Figures, s.Truths = oneRoom(7).Figures, nil }, 2, 0, api.ErrLong},
		{"a name", func(s *api.BiShow) { s.Figures[1].Name = "Ben" }, 2, 1, api.ErrForm},
		{"no name", func(s *api.BiShow) { s.Figures[0].Name = "" }, 2, 0, api.ErrForm},
		{"a long name", func(s *api.BiShow) { s.Figures[4].Name = "abcdefghijklmnopq" }, 2, 4, api.ErrForm},
		{"a name with a space", func(s *api.BiShow) { s.Figures[4].Name = "a b" }, 2, 4, api.ErrForm},
		{"a name before all else of a figure", func(s *api.BiShow) { s.Figures[2] = aFigure("2", "", -1, 0) }, 2, 2, api.ErrForm},
		{"two figures of one name", func(s *api.BiShow) { s.Figures[3].Name = "ada" }, 2, 3, api.ErrTwice},
		{"two figures of one name before As", func(s *api.BiShow) { s.Figures[1] = aFigure("ada", "", -1, 0) }, 2, 1, api.ErrTwice},
		{"As", func(s *api.BiShow) { s.Figures[1].As = "King" }, 2, 1, api.ErrForm},
		{"no As", func(s *api.BiShow) { s.Figures[0].As = "" }, 2, 0, api.ErrForm},
		{"a long As", func(s *api.BiShow) { s.Figures[3].As = "abcdefghijklmnopq" }, 2, 3, api.ErrForm},
		{"As before numbers", func(s *api.BiShow) { s.Figures[1] = aFigure("ben", "9", 10, 7) }, 2, 1, api.ErrForm},
		{"the height before the order of rooms", func(s *api.BiShow) { s.Figures[4].Room, s.Figures[4].Height = 0, 7 }, 2, 4, api.ErrRange},
		{"a room below 0, and below the one before", func(s *api.BiShow) { s.Figures[4].Room = -1 }, 2, 4, api.ErrRange},
		{"a room below the one before", func(s *api.BiShow) { s.Figures[4].Room = 0 }, 2, 4, api.ErrArg},
		{"a room above the next one", func(s *api.BiShow) { s.Figures[0].Room = 1 }, 2, 1, api.ErrArg},
		{"a room far below the one before", func(s *api.BiShow) { s.Figures[3].Room, s.Figures[4].Room = 9, 8 }, 2, 4, api.ErrArg},
		{"the first figure decides: ErrRange", func(s *api.BiShow) { s.Figures[1].Height, s.Figures[2].Name = 0, "" }, 2, 1, api.ErrRange},
		{"the first figure decides: ErrArg", func(s *api.BiShow) { s.Figures[2].Room, s.Figures[4].Name = 2, "" }, 2, 3, api.ErrArg},
		{"a figure before truths", func(s *api.BiShow) { s.Figures[4].Height, s.Truths = 7, nil }, 2, 4, api.ErrRange},
	}
	for _, f := range []struct {
		name   string
		lo, hi int
		of     func(f *api.BiFigure) *int
	}{
		{"Room", 0, 9, func(f *api.BiFigure) *int { return &f.Room }},
		{"Height", 1, 6, func(f *api.BiFigure) *int { return &f.Height }},
	} {
		for _, n := range outside(f.lo, f.hi) {
			for _, at := range []int{ada, dot} {
				changes = append(changes, change{fmt.Sprint(f.name, " ", n), func(s *api.BiShow) { *f.of(&s.Figures[at]) = n }, 2, at, api.ErrRange})
			}
		}
	}
	return changes
}

func badTruths() []change {
	changes := []change{
		{"no truths", func(s *api.BiShow) { s.Truths = nil }, 3, 0, api.ErrLong},
		{"7 truths", func(s *api.BiShow) { s.Truths = []int{1, 2, 3, 4, 5, 6, 7} }, 3, 0, api.ErrLong},
		{"too many truths before a wrong one", func(s *api.BiShow) { s.Truths = slices.Repeat([]int{-1}, 7) }, 3, 0, api.ErrLong},
		{"the same truth", func(s *api.BiShow) { s.Truths[2] = 11 }, 3, 2, api.ErrTwice},
		{"no figures in two truths", func(s *api.BiShow) { s.Truths = []int{0, 1, 0} }, 3, 2, api.ErrTwice},
		{"the first truth decides: ErrTwice", func(s *api.BiShow) { s.Truths = []int{3, 3, -1} }, 3, 1, api.ErrTwice},
		{"the first truth decides: ErrNone", func(s *api.BiShow) { s.Truths = []int{32, 3, 3} }, 3, 0, api.ErrNone},
		{"the same wrong truth", func(s *api.BiShow) { s.Truths = []int{3, 32, 32} }, 3, 1, api.ErrNone},
		{"figures that were taken away", func(s *api.BiShow) { s.Figures = s.Figures[:4] }, 3, 1, api.ErrNone},
		{"no figures, but a truth", func(s *api.BiShow) { s.Figures, s.Truths = nil, []int{1} }, 3, 0, api.ErrNone},
	}
	for _, n := range append(outside(0, 31), 64, 1<<40) {
		changes = append(changes, change{fmt.Sprint("truth ", n), func(s *api.BiShow) { s.Truths[1] = n }, 3, 1, api.ErrNone})
	}
	return changes
}

func badShows() []change { return slices.Concat(badLines(), badFigures(), badTruths()) }

func goodShows() []change {
	return []change{
		{name: "the example", do: func(s *api.BiShow) {}},
		{name: "no figures", do: func(s *api.BiShow) { s.Figures, s.Truths = nil, []int{0} }},
		{name: "30 lines", do: func(s *api.BiShow) { s.Lines = 30 }},
		{name: "the greatest numbers", do: func(s *api.BiShow) {
			s.Figures = slices.Repeat([]api.BiFigure{aFigure("abcdefghijklmnop", "q..............9", 9, 6)}, 6)
			for i := range s.Figures {
				s.Figures[i].Name = s.Figures[i].Name[i:]
			}
			s.Truths = []int{63, 62, 61, 60, 59, 0}
		}},
		{name: "the least numbers", do: func(s *api.BiShow) {
			*s = api.BiShow{Lines: 14, Figures: []api.BiFigure{aFigure("a", "a", 0, 1)}, Truths: []int{0}}
		}},
		{name: "two figures as one person", do: func(s *api.BiShow) { s.Figures[1].As = "queen" }},
		{name: "a figure as another one's name", do: func(s *api.BiShow) { s.Figures[1].As = "ada" }},
		{name: "rooms of their own", do: func(s *api.BiShow) { s.Figures[1].Room, s.Figures[2].Room = 1, 1 }},
		{name: "nobody in a truth", do: func(s *api.BiShow) { s.Truths[0] = 0 }},
	}
}

func TestP7_1Check(t *testing.T) {
	for _, c := range slices.Concat(badShows(), goodShows()) {
		if part, at, e := bill.Check(c.show()); part != c.part || at != c.at || e != c.e {
			t.Errorf("%s: Check = %d, %d, %d, not %d, %d, %d", c.name, part, at, e, c.part, c.at, c.e)
		}
	}
}

func TestErrorOfTheShowComesFirst(t *testing.T) {
	wrong := entries(may(9))
	for _, c := range badShows() {
		s := c.show()
		sure, e1 := bill.Surely(s, -1)
		isTrue, e2 := bill.True(s, wrong)
		best, mays, e3 := bill.Best(s)
		white, e4 := bill.Fits(s, wrong, []int{9})
		pages, least, e5 := bill.Set(s, wrong)
		fewest, e6 := bill.Fewest(s, wrong)
		text, e7 := bill.Write(s, wrong)
		read, e8 := bill.Read(s, strings.Repeat("x", 801))
		strike, surely, e9 := bill.Slip(s, wrong, 0)
		for i, e := range []api.Errno{e1, e2, e3, e4, e5, e6, e7, e8, e9} {
			if e != c.e {
				t.Errorf("%s: function %d returns %d, not %d", c.name, i, e, c.e)
			}
		}
		numbers := []int{len(best), mays, white, len(pages), least, fewest, len(text), len(read), len(strike), len(surely)}
		if sure || isTrue || slices.ContainsFunc(numbers, func(n int) bool { return n != 0 }) {
			t.Errorf("%s: a result beside the error", c.name)
		}
	}
}

// checkDown checks that the functions that take a catalogue that is true return ErrDown, and nothing else, whatever their other arguments are.
func checkDown(t *testing.T, name string, s api.BiShow, c []api.BiEntry) {
	t.Helper()
	white, e1 := bill.Fits(s, c, []int{9})
	pages, least, e2 := bill.Set(s, c)
	fewest, e3 := bill.Fewest(s, c)
	text, e4 := bill.Write(s, c)
	strike, surely, e5 := bill.Slip(s, c, 0)
	for i, e := range []api.Errno{e1, e2, e3, e4, e5} {
		if e != api.ErrDown {
			t.Errorf("%s: function %d returns %d", name, i, e)
		}
	}
	numbers := []int{white, len(pages), least, fewest, len(text), len(strike), len(surely)}
	if slices.ContainsFunc(numbers, func(n int) bool { return n != 0 }) {
		t.Errorf("%s: a result beside the error", name)
	}
}

func TestP7_2Surely(t *testing.T) {
	for i, c := range []struct {
		s       api.BiShow
		figures int
		want    bool
		e       api.Errno
	}{
		{exampleS(), 1, true, api.OK},
		{exampleS(), 2, false, api.OK},
		{exampleS(), 4, false, api.OK},
		{exampleS(), 2 + 4, true, api.OK},
		{exampleS(), 8 + 16, false, api.OK},
		{exampleS(), 4 + 8, true, api.OK},
		{exampleS(), 4 + 16, false, api.OK},
		{exampleS(), 2 + 16, true, api.OK},
		{exampleS(), 31, true, api.OK},
		{exampleS(), 30, true, api.OK},
		{exampleS(), 0, false, api.OK},
		{exampleS(), 32, false, api.ErrNone},
		{exampleS(), 33, false, api.ErrNone},
		{exampleS(), -1, false, api.ErrNone},
		{exampleS(), math.MinInt, false, api.ErrNone},
		{exampleS(), math.MaxInt, false, api.ErrNone},
		{oneRoom(0, 0), 0, false, api.OK},
		{oneRoom(0, 0), 1, false, api.ErrNone},
		{oneRoom(2, 3, 0), 3, false, api.OK},
		{oneRoom(2, 3), 3, true, api.OK},
		{oneRoom(2, 2), 1, false, api.OK},
		{oneRoom(6, 33, 34, 36, 40, 48, 63), 32, true, api.OK},
		{oneRoom(6, 33, 34, 36, 40, 48, 63), 31, true, api.OK},
		{oneRoom(6, 33, 34, 36, 40, 48, 63), 30, false, api.OK},
		{oneRoom(6, 63), 64, false, api.ErrNone},
	} {
		if got, e := bill.Surely(c.s, c.figures); got != c.want || e != c.e {
			t.Errorf("%d: Surely of %d = %t, %d", i, c.figures, got, e)
		}
	}
}

// aCatalogue is a catalogue of a show, true or not.
type aCatalogue struct {
	name string
	s    api.BiShow
	c    []api.BiEntry
}

func trueCatalogues() []aCatalogue {
	return []aCatalogue{
		{"C", exampleS(), exampleC()},
		{"nobody is said to be shown instead", exampleS(), entries(is(0), may(1), may(2), may(3), may(4))},
		{"nobody", oneRoom(0, 0), nil},
		{"nobody arrives", oneRoom(3, 0), nil},
		{"one of two", oneRoom(2, 1, 2), entries(either(0, 1))},
		{"both, or one of two", oneRoom(2, 1, 2, 3), entries(either(0, 1))},
		{"one of two, or none", oneRoom(2, 1, 2, 0), entries(may(0), may(1))},
		{"the second alone", oneRoom(2, 2), entries(is(1))},
		{"the second one perhaps", oneRoom(2, 2, 0), entries(may(1))},
		{"one of two, around a third", oneRoom(3, 3, 6), entries(either(0, 2), is(1))},
		{"one of two, around one who never does", oneRoom(3, 1, 4), entries(either(0, 2))},
		{"the last of three stand for each other", oneRoom(3, 3, 5, 6), entries(may(0), either(1, 2))},
		{"the first of three stand for each other", oneRoom(3, 3, 5, 6), entries(either(0, 1), may(2))},
		{"crosswise", oneRoom(4, 3, 6, 9, 12), entries(either(0, 2), either(1, 3))},
		{"in two rooms", inRooms(oneRoom(2, 1, 2), 0, 1), entries(may(0), may(1))},
		{"six are shown", stack(14, 6, 6, 6, 6, 6, 6), allAre(oneRoom(6))},
	}
}

func wrongCatalogues() []aCatalogue {
	s := exampleS()
	list := []aCatalogue{
		{"a figure is missing", s, exampleC()[:3]},
		{"the first figure is missing", s, exampleC()[1:]},
		{"all are missing", s, nil},
		{"who surely arrives may", s, entries(may(0), either(1, 2), may(3), may(4))},
		{"who may arrive is", s, entries(is(0), is(1), may(2), may(3), may(4))},
		{"A behind B", s, entries(is(0), either(2, 1), may(3), may(4))},
		{"B is in another entry, too", s, entries(is(0), either(1, 2), may(2), may(3), may(4))},
		{"A is in another entry, too", oneRoom(3, 3, 5, 6), entries(either(0, 2), either(1, 2))},
		{"A above the next one", s, entries(is(0), either(1, 2), may(4), may(3))},
		{"the same entry twice", s, entries(is(0), is(0), either(1, 2), may(3), may(4))},
		{"the last entry twice", s, entries(is(0), either(1, 2), may(3), may(4), may(4))},
		{"neither, perhaps", s, entries(is(0), either(1, 2), either(3, 4))},
		{"one of two, but in two rooms", s, entries(is(0), may(1), either(2, 3), may(4))},
		{"one surely does", s, entries(either(0, 1), may(2), may(3), may(4))},
		{"the other one surely does", oneRoom(2, 2, 3), entries(either(0, 1))},
		{"both surely do", oneRoom(2, 3), entries(either(0, 1))},
		{"one never does, one surely", oneRoom(2, 1), entries(either(0, 1))},
		{"one instead of itself", oneRoom(2, 1, 0), entries(either(0, 0))},
		{"one surely, instead of itself", oneRoom(2, 1), entries(either(0, 0))},
		{"who never arrives may", oneRoom(2, 1), entries(is(0), may(1))},
		{"who never arrives is", oneRoom(2, 1), entries(is(0), is(1))},
		{"nobody arrives, one may", oneRoom(2, 0), entries(may(0))},
		{"no figures, one may", oneRoom(0, 0), entries(may(0))},
		{"in two rooms", inRooms(oneRoom(2, 1, 2), 0, 1), entries(either(0, 1))},
		{"B of BiMay", s, entries(is(0), either(1, 2), may(3), api.BiEntry{Says: api.BiMay, A: 4, B: 3})},
		{"B of BiIs", s, entries(api.BiEntry{Says: api.BiIs, A: 0, B: 1}, either(1, 2), may(3), may(4))},
		{"many entries", s, slices.Repeat(exampleC(), 1000)},
	}
	for _, n := range outside(0, 4) {
		list = append(list,
			aCatalogue{fmt.Sprint("A ", n), s, entries(is(0), either(1, 2), may(3), may(n))},
			aCatalogue{fmt.Sprint("A of BiIs ", n), s, entries(is(n), either(1, 2), may(3), may(4))},
			aCatalogue{fmt.Sprint("A of BiEither ", n), s, entries(is(0), either(n, 2), may(3), may(4))},
			aCatalogue{fmt.Sprint("B ", n), s, entries(is(0), either(1, n), may(3), may(4))},
			aCatalogue{fmt.Sprint("B of BiMay ", n), s, entries(is(0), either(1, 2), may(3), api.BiEntry{Says: api.BiMay, A: 4, B: n})})
	}
	for _, n := range outside(0, 2) {
		list = append(list, aCatalogue{fmt.Sprint("Says ", n), s, entries(is(0), either(1, 2), may(3), api.BiEntry{Says: n, A: 4})})
	}
	return list
}

func TestP7_2True(t *testing.T) {
	for _, c := range trueCatalogues() {
		if got, e := bill.True(c.s, c.c); !got || e != api.OK {
			t.Errorf("%s: True = %t, %d", c.name, got, e)
		}
	}
	for _, c := range wrongCatalogues() {
		if got, e := bill.True(c.s, c.c); got || e != api.OK {
			t.Errorf("%s: True = %t, %d", c.name, got, e)
		}
		checkDown(t, c.name, c.s, c.c)
	}
}

func TestP7_3Best(t *testing.T) {
	for i, c := range []struct {
		s    api.BiShow
		want []api.BiEntry
		may  int
	}{
		{exampleS(), exampleC(), 2},
		{oneRoom(0, 0), nil, 0},
		{oneRoom(6, 0), nil, 0},
		{oneRoom(2, 1, 2), entries(either(0, 1)), 0},
		{oneRoom(2, 1, 2, 0), entries(may(0), may(1)), 2},
		{oneRoom(2, 3), entries(is(0), is(1)), 0},
		{oneRoom(2, 2, 3), entries(may(0), is(1)), 1},
		{oneRoom(3, 3, 5, 6), entries(either(0, 1), may(2)), 1},
		{oneRoom(3, 3, 6), entries(either(0, 2), is(1)), 0},
		{oneRoom(3, 1, 4), entries(either(0, 2)), 0},
		{oneRoom(3, 3, 4), entries(either(0, 2), may(1)), 1},
		{oneRoom(3, 3, 5, 7, 4), entries(either(0, 2), may(1)), 1},
		{oneRoom(3, 1, 6), entries(either(0, 1), may(2)), 1},
		{inRooms(oneRoom(3, 1, 6), 0, 1, 1), entries(may(0), may(1), may(2)), 3},
		{inRooms(oneRoom(3, 1, 6), 0, 0, 1), entries(either(0, 1), may(2)), 1},
		{inRooms(oneRoom(3, 3, 4), 0, 0, 1), entries(may(0), may(1), may(2)), 3},
		{oneRoom(4, 3, 6, 9, 12), entries(either(0, 2), either(1, 3)), 0},
		{oneRoom(4, 3, 5, 10, 12), entries(either(0, 3), either(1, 2)), 0},
		{oneRoom(4, 7, 11, 13, 14), entries(either(0, 1), either(2, 3)), 0},
		// Who stands for the first one alone has to, though a figure before it could, too.
		{oneRoom(4, 3, 6, 13), entries(either(0, 2), either(1, 3)), 0},
		{oneRoom(4, 3, 7, 14), entries(either(0, 2), is(1), may(3)), 1},
		{oneRoom(4, 10, 7, 13), entries(either(0, 1), either(2, 3)), 0},
		{oneRoom(4, 6, 7, 13), entries(either(0, 1), is(2), may(3)), 1},
		{oneRoom(4, 14, 11, 6, 7), entries(either(0, 2), is(1), may(3)), 1},
		{oneRoom(6, 62, 61, 59, 55, 47, 31), entries(either(0, 1), either(2, 3), either(4, 5)), 0},
		{inRooms(oneRoom(6, 62, 61, 59, 55, 47, 31), 0, 0, 0, 1, 1, 1), entries(either(0, 1), may(2), either(3, 4), may(5)), 2},
		{inRooms(oneRoom(6, 62, 61, 59, 55, 47, 31), 0, 1, 1, 1, 1, 2), entries(may(0), either(1, 2), either(3, 4), may(5)), 2},
		{oneRoom(6, 21, 42), entries(either(0, 1), either(2, 3), either(4, 5)), 0},
		{oneRoom(6, 35, 28), entries(either(0, 2), either(1, 3), either(4, 5)), 0},
	} {
		got, n, e := bill.Best(c.s)
		if !slices.Equal(got, c.want) || n != c.may || e != api.OK {
			t.Errorf("%d: Best = %v, %d, %d, not %v, %d", i, got, n, e, c.want, c.may)
		}
	}
}

func TestP7_4Fits(t *testing.T) {
	s := exampleS()
	four := stack(14, 4, 4, 4, 4)
	rooms := inRooms(stack(14, 1, 1, 1, 1, 1), 0, 2, 4, 6, 8)
	for i, c := range []struct {
		s     api.BiShow
		c     []api.BiEntry
		pages []int
		want  int
		e     api.Errno
	}{
		{s, exampleC(), []int{0, 2}, 0, api.OK},
		{s, exampleC(), []int{0, 1, 2}, 85, api.OK},
		{s, exampleC(), []int{0, 1, 2, 3}, 121, api.OK},
		{s, exampleC(), []int{0, 2, 3}, 36, api.OK},
		{s, exampleC(), []int{0, 3}, 0, api.ErrRange},
		{s, exampleC(), []int{0}, 0, api.ErrRange},
		{s, exampleC(), []int{0, 1}, 0, api.ErrRange},
		{lined(s, 23), exampleC(), []int{0}, 0, api.ErrRange},
		{lined(s, 24), exampleC(), []int{0}, 0, api.OK},
		{lined(s, 15), exampleC(), []int{0, 2}, 1, api.OK},
		{lined(s, 30), exampleC(), []int{0, 3}, 64, api.OK},
		{four, allAre(four), []int{0, 3}, 0, api.OK},
		{four, allAre(four), []int{0, 2}, 16, api.OK},
		{four, allAre(four), []int{0, 1}, 64, api.OK},
		{four, allAre(four), []int{0, 1, 2, 3}, 64 + 81 + 81, api.OK},
		{four, allAre(four), []int{0}, 0, api.ErrRange},
		{rooms, allAre(rooms), []int{0, 4}, 4, api.OK},
		{rooms, allAre(rooms), []int{0, 1}, 121, api.OK},
		{rooms, allAre(rooms), []int{0}, 0, api.ErrRange},
		{oneRoom(3, 0), nil, nil, 0, api.OK},
		{oneRoom(3, 0), nil, []int{0}, 0, api.ErrArg},
		{s, exampleC(), nil, 0, api.ErrArg},
		{s, exampleC(), []int{1}, 0, api.ErrArg},
		{s, exampleC(), []int{2}, 0, api.ErrArg},
		{s, exampleC(), []int{0, 0}, 0, api.ErrArg},
		{s, exampleC(), []int{0, 2, 2}, 0, api.ErrArg},
		{s, exampleC(), []int{0, 2, 1}, 0, api.ErrArg},
		{s, exampleC(), []int{2, 0}, 0, api.ErrArg},
		{s, exampleC(), []int{0, 4}, 0, api.ErrArg},
		{s, exampleC(), []int{0, 2, 4}, 0, api.ErrArg},
		{s, exampleC(), []int{-1, 2}, 0, api.ErrArg},
		{s, exampleC(), []int{0, -1}, 0, api.ErrArg},
		{s, exampleC(), []int{0, 3, 2}, 0, api.ErrArg},
		{s, exampleC(), []int{0, 3, 9}, 0, api.ErrArg},
		{s, exampleC(), []int{math.MinInt}, 0, api.ErrArg},
		{s, exampleC(), []int{0, math.MaxInt}, 0, api.ErrArg},
		{s, exampleC(), make([]int, 1000), 0, api.ErrArg},
	} {
		if got, e := bill.Fits(c.s, c.c, c.pages); got != c.want || e != c.e {
			t.Errorf("%d: Fits of %v = %d, %d, not %d, %d", i, c.pages, got, e, c.want, c.e)
		}
	}
}

func TestP7_4SetAndFewest(t *testing.T) {
	high := changed(oneRoom(6, 21, 42), func(s *api.BiShow) {
		for i := range s.Figures {
			s.Figures[i].Height = 6
		}
	})
	for i, c := range []struct {
		s      api.BiShow
		c      []api.BiEntry
		pages  []int
		white  int
		fewest int
	}{
		{exampleS(), exampleC(), []int{0, 2}, 0, 2},
		{lined(exampleS(), 15), exampleC(), []int{0, 2}, 1, 2},
		{lined(exampleS(), 23), exampleC(), []int{0, 3}, 1, 2},
		{lined(exampleS(), 24), exampleC(), []int{0}, 0, 1},
		{lined(exampleS(), 30), exampleC(), []int{0}, 0, 1},
		{exampleS(), trueCatalogues()[1].c, []int{0, 3}, 0, 2},
		{oneRoom(0, 0), nil, nil, 0, 0},
		{oneRoom(6, 0), nil, nil, 0, 0},
		{stack(14, 6, 6, 6, 6, 6, 6), allAre(oneRoom(6)), []int{0, 2, 4}, 1, 3},
		{stack(14, 4, 4, 4, 4), allAre(oneRoom(4)), []int{0, 3}, 0, 2},
		{stack(14, 1, 1, 1, 1, 1, 1), allAre(oneRoom(6)), []int{0}, 0, 1},
		{stack(14, 6), allAre(oneRoom(1)), []int{0}, 0, 1},
		// a page that is full to its last line, and one that lacks a line
		{stack(14, 6, 6), allAre(oneRoom(2)), []int{0}, 0, 1},
		{stack(14, 6, 6, 1), allAre(oneRoom(3)), []int{0, 2}, 0, 2},
		{stack(14, 6, 5, 1), allAre(oneRoom(3)), []int{0}, 0, 1},
		{inRooms(stack(14, 6, 5), 0, 1), allAre(oneRoom(2)), []int{0, 1}, 36, 2},
		{inRooms(stack(14, 6, 4), 0, 1), allAre(oneRoom(2)), []int{0}, 0, 1},
		{inRooms(stack(14, 1, 1, 1, 1, 1), 0, 1, 2, 3, 4), allAre(oneRoom(5)), []int{0, 4}, 4, 2},
		{inRooms(stack(14, 3, 4, 3, 6, 1), 0, 0, 0, 0, 1), allAre(oneRoom(5)), []int{0, 3}, 4, 2},
		// two figures of an entry are on one page, which is full
		{lined(high, 14), entries(either(0, 1), either(2, 3), either(4, 5)), []int{0, 1, 2}, 0 + 1, 3},
		{lined(high, 26), entries(either(0, 1), either(2, 3), either(4, 5)), []int{0, 2}, 0, 2},
		{lined(high, 25), entries(either(0, 1), either(2, 3), either(4, 5)), []int{0, 1}, 121, 2},
		// less white, though the first page could have an entry more
		{stack(14, 6, 5, 1, 6, 5, 3), allAre(oneRoom(6)), []int{0, 2, 5}, 1 + 1, 3},
		{stack(14, 6, 5, 1, 6, 4, 4), allAre(oneRoom(6)), []int{0, 2, 5}, 1 + 4, 3},
		{stack(14, 5, 3, 6, 6), allAre(oneRoom(4)), []int{0, 2}, 16, 2},
		{stack(14, 6, 1, 6, 5, 2, 6), allAre(oneRoom(6)), []int{0, 2, 5}, 25, 3},
		// as much white by as many pages
		{stack(14, 6, 2, 3, 3, 6, 6), allAre(oneRoom(6)), []int{0, 2, 5}, 16 + 1, 3},
		{inRooms(stack(14, 4, 4, 1, 6, 3, 2), 0, 1, 1, 1, 2, 3), allAre(oneRoom(6)), []int{0, 2, 5}, 5, 3},
	} {
		pages, white, e := bill.Set(c.s, c.c)
		if !slices.Equal(pages, c.pages) || white != c.white || e != api.OK {
			t.Errorf("%d: Set = %v, %d, %d, not %v, %d", i, pages, white, e, c.pages, c.white)
		}
		if fewest, e := bill.Fewest(c.s, c.c); fewest != c.fewest || e != api.OK {
			t.Errorf("%d: Fewest = %d, %d, not %d", i, fewest, e, c.fewest)
		}
	}
}

// aText is the text of a catalogue of a show.
type aText struct {
	s    api.BiShow
	c    []api.BiEntry
	text string
}

func texts() []aText {
	words := changed(oneRoom(3, 3, 6), func(s *api.BiShow) {
		s.Figures = []api.BiFigure{aFigure("or", "page", 0, 1), aFigure("is", "as", 9, 1), aFigure("may", "be", 9, 1)}
		s.Truths = []int{5, 4}
	})
	long := changed(stack(14, 6, 6, 6, 6, 6, 6), func(s *api.BiShow) {
		s.Truths = []int{62, 61, 59, 55, 47, 31}
		for i, c := range "abcdef" {
			s.Figures[i].Name = "abcdefghijklmno" + string(c)
			s.Figures[i].As = "p..............9"
		}
	})
	return []aText{
		{exampleS(), exampleC(), exampleText},
		{lined(exampleS(), 15), exampleC(), exampleText},
		{lined(exampleS(), 24), exampleC(), "page 1\nroom 0\n1 is ada as queen\n2 is ben as king or cy as clown\nroom 1\n3 may be dot as judge\n4 may be eli as nun\n"},
		{lined(exampleS(), 30), trueCatalogues()[1].c, "page 1\nroom 0\n1 is ada as queen\n2 may be ben as king\n3 may be cy as clown\nroom 1\n4 may be dot as judge\n5 may be eli as nun\n"},
		{oneRoom(0, 0), nil, ""},
		{oneRoom(3, 0), nil, ""},
		{oneRoom(2, 2), entries(is(1)), "page 1\nroom 2\n1 is b as x\n"},
		{oneRoom(3, 3, 6), entries(either(0, 2), is(1)), "page 1\nroom 2\n1 is a as x or c as x\n2 is b as x\n"},
		{words, entries(may(0), is(2)), "page 1\nroom 0\n1 may be or as page\nroom 9\n2 is may as be\n"},
		{stack(14, 4, 4, 4, 4), allAre(oneRoom(4)), "page 1\nroom 2\n1 is a as x\n2 is b as x\n3 is c as x\npage 2\nroom 2 continued\n4 is d as x\n"},
		{stack(14, 6, 2, 3, 3, 6, 6), allAre(oneRoom(6)), "page 1\nroom 2\n1 is a as x\n2 is b as x\npage 2\nroom 2 continued\n3 is c as x\n4 is d as x\n5 is e as x\npage 3\nroom 2 continued\n6 is f as x\n"},
		{inRooms(stack(14, 1, 1, 1, 1, 1), 0, 1, 2, 3, 4), allAre(oneRoom(5)), "page 1\nroom 0\n1 is a as x\nroom 1\n2 is b as x\nroom 2\n3 is c as x\nroom 3\n4 is d as x\npage 2\nroom 4\n5 is e as x\n"},
		{long, entries(either(0, 1), either(2, 3), either(4, 5)), "page 1\nroom 2\n1 is abcdefghijklmnoa as p..............9 or abcdefghijklmnob as p..............9\n" +
			"page 2\nroom 2 continued\n2 is abcdefghijklmnoc as p..............9 or abcdefghijklmnod as p..............9\n" +
			"page 3\nroom 2 continued\n3 is abcdefghijklmnoe as p..............9 or abcdefghijklmnof as p..............9\n"},
	}
}

func TestP7_5Texts(t *testing.T) {
	for i, c := range texts() {
		if text, e := bill.Write(c.s, c.c); text != c.text || e != api.OK {
			t.Errorf("%d: Write = %q, %d, not %q", i, text, e, c.text)
		}
		if read, e := bill.Read(c.s, c.text); !slices.Equal(read, c.c) || e != api.OK {
			t.Errorf("%d: Read = %v, %d, not %v", i, read, e, c.c)
		}
	}
}

// otherTexts are texts that differ from that of C.
func otherTexts() []string {
	list := []string{
		"", "\n", " ", "page 1\n", "page 1\nroom 0\n", exampleText + exampleText, exampleText[1:], exampleText[:len(exampleText)-1], exampleText + "\n", exampleText + " ", exampleText + "x", "\n" + exampleText, " " + exampleText, exampleText + "page 3\n", exampleText + "room 2\n", exampleText + "5 is ada as queen\n", exampleText + "4 may be eli as nun\n",
		// a text that is true, but set into other pages
		"page 1\nroom 0\n1 is ada as queen\npage 2\nroom 0 continued\n2 is ben as king or cy as clown\npage 3\nroom 1\n3 may be dot as judge\n4 may be eli as nun\n",
		"page 1\nroom 0\n1 is ada as queen\n2 is ben as king or cy as clown\nroom 1\n3 may be dot as judge\n4 may be eli as nun\n",
		// a catalogue that is not true
		"page 1\nroom 0\n1 is ada as queen\n2 is ben as king\n3 is cy as clown\npage 2\nroom 1\n4 may be dot as judge\n5 may be eli as nun\n",
		"page 1\nroom 0\n1 is ada as queen\n2 is ben as king or cy as clown\npage 2\nroom 1\n3 may be dot as judge\n",
		"page 1\nroom 0\n1 is ada as queen\n2 is ben as king or cy as clown\npage 2\nroom 1\n3 is dot as judge or eli as nun\n",
		"page 1\nroom 0\n1 is ada as queen\n2 is ben as king or cy as clown\npage 2\nroom 1\n3 may be eli as nun\n4 may be dot as judge\n",
		// as many bytes as there can be
		strings.Repeat("\n", api.MaxBiText), strings.Repeat("x", api.MaxBiText), strings.Repeat(" ", api.MaxBiText), exampleText + strings.Repeat("\n", api.MaxBiText-len(exampleText)), strings.Repeat("1 is ada as queen\n", 44),
	}
	for _, c := range []struct{ from, to string }{
		{"\n", "\r\n"}, {"\n", " \n"}, {"\n", ""}, {"\n", "\n\n"}, {" ", "  "}, {" ", "\t"}, {" ", ""}, {" ", "\u00a0"}, {" ", "\n"}, {"\n", "\x00\n"}, {"page", "Page"}, {"page", "pages"}, {"page 1", "page 0"}, {"page 1", "page 01"}, {"page 1", "page +1"}, {"page 1", "page"}, {"page 1", "page 1 1"}, {"page 1", "page one"}, {"page 1", "page ١"}, {"page 1", "page 18446744073709551617"}, {"page 2", "page 1"}, {"page 2", "page 3"}, {"page 2\n", ""},
		{"room 0", "room 00"}, {"room 0", "room -0"}, {"room 0", "room 1"}, {"room 0", "room"}, {"room 0", "room 0 continued"}, {"room 1", "room 01"}, {"room 1", "room 1 "}, {"room 1", "room 1 continued"}, {"room 1\n", ""}, {"room 0\n", ""}, {"room", "rooms"},
		{"1 is", "01 is"}, {"1 is", "0 is"}, {"1 is", "2 is"}, {"1 is", "is"}, {"1 is", "+1 is"}, {"1 is", "page is"}, {"1 is", "room is"}, {"1 is", " is"}, {"2 is", "3 is"}, {"3 may", "4 may"}, {"4 may", "3 may"},
		{"is ada", "Is ada"}, {"is ada", "may be ada"}, {"is ada", "is be ada"}, {"is ada", "ada"}, {"is ben", "may be ben"}, {"may be dot", "is dot"}, {"may be dot", "may dot"}, {"may be dot", "may is dot"}, {"may be", "maybe"},
		{"ada", "adb"}, {"ada", "Ada"}, {"ada", ""}, {"ada", "eli"}, {"ada", "ada as ada"}, {"ada as queen", "ada"}, {"ada as queen", "ada as"}, {"ada as queen", "ada as king"}, {"ada as queen", "queen as ada"}, {"ada as queen", "ada as queen as queen"}, {"ada as queen", "ada as queen or ben as king"}, {"as queen", "is queen"}, {"queen", "queen\xff"}, {"queen", "\xffqueen"},
		{"ben as king or cy as clown", "cy as clown or ben as king"}, {"ben as king or cy as clown", "ben or cy"}, {"ben as king or cy as clown", "ben as king and cy as clown"}, {"ben as king or cy as clown", "ben as clown or cy as king"}, {"ben as king or cy as clown", "ben as king or"}, {"ben as king or cy as clown", "ben as king or cy as clown or dot as judge"}, {"is ben as king or cy as clown", "may be ben as king or cy as clown"}, {"as king or", "as king or is"},
		{"1 is ada as queen\n", ""}, {"2 is ben as king or cy as clown\n", ""}, {"4 may be eli as nun\n", ""}, {"4 may be eli as nun\n", "4 may be dot as judge\n"},
	} {
		list = append(list, strings.Replace(exampleText, c.from, c.to, 1), strings.ReplaceAll(exampleText, c.from, c.to))
	}
	return append(list, strings.ToUpper(exampleText))
}

func TestP7_5NotTheTextOfACatalogue(t *testing.T) {
	for _, text := range otherTexts() {
		if read, e := bill.Read(exampleS(), text); len(read) > 0 || e != api.ErrForm {
			t.Errorf("Read(%q) = %v, %d", text, read, e)
		}
	}
	for i, c := range texts() {
		other := changed(c.s, func(s *api.BiShow) {
			s.Figures = append(s.Figures[:min(5, len(s.Figures)):min(5, len(s.Figures))], aFigure("z", "z", 9, 1))
			s.Truths = []int{1<<len(s.Figures) - 1}
		})
		if read, e := bill.Read(other, c.text); len(read) > 0 || e != api.ErrForm {
			t.Errorf("%d: Read of a text of another show = %v, %d", i, read, e)
		}
	}
	if read, e := bill.Read(lined(exampleS(), 24), exampleText); len(read) > 0 || e != api.ErrForm {
		t.Errorf("Read of a text of a show with fewer lines = %v, %d", read, e)
	}
	for _, s := range []api.BiShow{exampleS(), oneRoom(0, 0)} {
		for _, text := range []string{strings.Repeat("a", api.MaxBiText+1), exampleText + strings.Repeat("\n", api.MaxBiText), strings.Repeat("\n", 10000)} {
			if read, e := bill.Read(s, text); len(read) > 0 || e != api.ErrLong {
				t.Errorf("Read of %d bytes = %v, %d", len(text), read, e)
			}
		}
	}
}

func TestP7_6Slip(t *testing.T) {
	allMay := trueCatalogues()[1].c
	for i, c := range []struct {
		s              api.BiShow
		c              []api.BiEntry
		left           int
		strike, surely []int
		e              api.Errno
	}{
		{exampleS(), exampleC(), 3, nil, []int{dot}, api.OK},
		{exampleS(), exampleC(), 1, []int{3}, []int{ben, dot}, api.OK},
		{exampleS(), exampleC(), 7, nil, nil, api.OK},
		{exampleS(), exampleC(), 2, nil, []int{cy, dot, eli}, api.OK},
		{exampleS(), exampleC(), 4, []int{2, 3}, []int{ben, cy}, api.OK},
		{exampleS(), exampleC(), 5, []int{3}, []int{ben}, api.OK},
		{exampleS(), exampleC(), 6, nil, []int{cy}, api.OK},
		{exampleS(), allMay, 7, nil, nil, api.OK},
		{exampleS(), allMay, 1, []int{2, 4}, []int{ben, dot}, api.OK},
		{exampleS(), allMay, 2, []int{1}, []int{cy, dot, eli}, api.OK},
		{exampleS(), allMay, 4, []int{3, 4}, []int{ben, cy}, api.OK},
		{oneRoom(2, 0, 1, 2), entries(may(0), may(1)), 1, []int{0, 1}, nil, api.OK},
		{oneRoom(2, 0, 1, 2), entries(may(0), may(1)), 2, []int{1}, []int{0}, api.OK},
		{oneRoom(2, 0, 1, 2), entries(may(0), may(1)), 6, nil, nil, api.OK},
		{oneRoom(0, 0), nil, 1, nil, nil, api.OK},
		{oneRoom(6, 1, 2, 4, 8, 16, 32), entries(may(0), may(1), may(2), may(3), may(4), may(5)), 32, []int{0, 1, 2, 3, 4}, []int{5}, api.OK},
		{oneRoom(6, 1, 2, 4, 8, 16, 32), entries(may(0), may(1), may(2), may(3), may(4), may(5)), 63, nil, nil, api.OK},
		{oneRoom(6, 1, 2, 4, 8, 16, 32), entries(may(0), may(1), may(2), may(3), may(4), may(5)), 64, nil, nil, api.ErrRange},
		{oneRoom(0, 0), nil, 2, nil, nil, api.ErrRange},
		{exampleS(), exampleC(), 0, nil, nil, api.ErrRange},
		{exampleS(), exampleC(), 8, nil, nil, api.ErrRange},
		{exampleS(), exampleC(), 9, nil, nil, api.ErrRange},
		{exampleS(), exampleC(), -1, nil, nil, api.ErrRange},
		{exampleS(), exampleC(), math.MinInt, nil, nil, api.ErrRange},
		{exampleS(), exampleC(), math.MaxInt, nil, nil, api.ErrRange},
		{exampleS(), exampleC()[:3], 1, nil, nil, api.ErrDown},
	} {
		strike, surely, e := bill.Slip(c.s, c.c, c.left)
		if !slices.Equal(strike, c.strike) || !slices.Equal(surely, c.surely) || e != c.e {
			t.Errorf("%d: Slip of %d = %v, %v, %d, not %v, %v, %d", i, c.left, strike, surely, e, c.strike, c.surely, c.e)
		}
	}
}

// callAll calls every function, and returns all results as a text.
func callAll(s api.BiShow, c []api.BiEntry, pages []int, figures, left int, text string) string {
	var out []any
	call := func(results ...any) { out = append(out, results...) }
	call(bill.Check(s))
	call(bill.Surely(s, figures))
	call(bill.True(s, c))
	call(bill.Best(s))
	call(bill.Fits(s, c, pages))
	call(bill.Set(s, c))
	call(bill.Fewest(s, c))
	call(bill.Write(s, c))
	call(bill.Read(s, text))
	call(bill.Slip(s, c, left))
	return fmt.Sprint(out...)
}

// oddShows are S with something odd about it, in all that n can be.
func oddShows(n int) []api.BiShow {
	many := max(0, min(n, 1001))
	var shows []api.BiShow
	for _, do := range []func(s *api.BiShow){
		func(s *api.BiShow) { s.Lines = n },
		func(s *api.BiShow) { s.Figures = make([]api.BiFigure, many) },
		func(s *api.BiShow) { s.Figures = s.Figures[:min(many, 5)] },
		func(s *api.BiShow) { s.Figures[1].Name = strings.Repeat("a", many) },
		func(s *api.BiShow) { s.Figures[1].As = strings.Repeat("\xff", many) },
		func(s *api.BiShow) { s.Figures[4].Room = n },
		func(s *api.BiShow) { s.Figures[2].Height = n },
		func(s *api.BiShow) { s.Truths = make([]int, many) },
		func(s *api.BiShow) { s.Truths[1] = n },
	} {
		shows = append(shows, change{do: do}.show())
	}
	return shows
}

func TestP7_14AnyArguments(t *testing.T) {
	odd := []int{math.MinInt, -101, -2, -1, 0, 1, 2, 3, 4, 5, 6, 7, 9, 14, 30, 31, 32, 63, 64, math.MaxInt}
	shows := []api.BiShow{{}, {Lines: 14, Figures: make([]api.BiFigure, 1000), Truths: make([]int, 1000)}, exampleS(), oneRoom(0, 0), oneRoom(6, 21, 42)}
	for _, n := range odd {
		shows = append(shows, oddShows(n)...)
	}
	for _, s := range shows {
		before := fmt.Sprint(s)
		for _, n := range odd {
			c, pages := entries(is(0), either(1, n), api.BiEntry{Says: n, A: 3}, may(n)), []int{0, n}
			first := callAll(s, c, pages, n, n, fmt.Sprint(n))
			if again := callAll(s, c, pages, n, n, fmt.Sprint(n)); again != first {
				t.Fatalf("%v, %d: %s, and then %s", s, n, first, again)
			}
			if !slices.Equal(c, entries(is(0), either(1, n), api.BiEntry{Says: n, A: 3}, may(n))) || !slices.Equal(pages, []int{0, n}) {
				t.Fatalf("%v, or %v, was modified", c, pages)
			}
			callAll(s, exampleC(), []int{0, n}, n, n, exampleText[:max(0, min(n, len(exampleText)))])
			callAll(s, exampleC(), []int{n, 2}, n, n, strings.Repeat("\xff \n", max(0, min(n, 300))))
			callAll(s, make([]api.BiEntry, max(0, min(n, 1001))), make([]int, max(0, min(n, 1001))), n, n, strings.Repeat(" ", max(0, min(n, 1001))))
		}
		if fmt.Sprint(s) != before {
			t.Errorf("%s was modified: %v", before, s)
		}
	}
}

func TestP7_14NewMemory(t *testing.T) {
	s, c, pages := exampleS(), exampleC(), []int{0, 2, 3, 9}
	before := fmt.Sprint(s, c, pages)
	text := callAll(s, c, pages[:3], 6, 1, exampleText)
	white, e := bill.Fits(s, c, pages[:3])
	best, _, _ := bill.Best(s)
	set, _, _ := bill.Set(s, c)
	read, _ := bill.Read(s, exampleText)
	strike, surely, _ := bill.Slip(s, c, 1)
	if white != 36 || e != api.OK || len(best) != 4 || len(set) != 2 || len(read) != 4 || len(strike) != 1 || len(surely) != 2 {
		t.Fatalf("Fits = %d, %d; %v, %v, %v, %v, %v", white, e, best, set, read, strike, surely)
	}
	strike[0], surely[0], set[1], best[1].B, read[1].B = 9, 9, 9, 9, 9
	_ = append(strike[:0], 7, 7, 7)
	_ = append(best[:1], may(9))
	if surely[0] != 9 || surely[1] != dot {
		t.Errorf("results of Slip share memory: %v", surely)
	}
	if fmt.Sprint(s, c, pages) != before || callAll(s, c, pages[:3], 6, 1, exampleText) != text {
		t.Error("a result shares memory with an argument, or is kept")
	}
}

func TestP7_14NilAndEmpty(t *testing.T) {
	empty := changed(oneRoom(0, 0), func(s *api.BiShow) { s.Figures = []api.BiFigure{} })
	a := callAll(oneRoom(0, 0), nil, nil, 0, 1, "")
	if b := callAll(empty, []api.BiEntry{}, []int{}, 0, 1, ""); a != b {
		t.Errorf("%s, and %s", a, b)
	}
	if part, at, e := bill.Check(changed(exampleS(), func(s *api.BiShow) { s.Truths = []int{} })); part != 3 || at != 0 || e != api.ErrLong {
		t.Errorf("Check of no truths = %d, %d, %d", part, at, e)
	}
	if _, e := bill.Fits(exampleS(), exampleC(), []int{}); e != api.ErrArg {
		t.Errorf("Fits of no pages: %d", e)
	}
}
