package room_test

import (
	"fmt"
	"math"
	"slices"
	"strings"
	"testing"

	"ceroplast/api"
	"ceroplast/room"
)

// Indices of the places and figures of the chapter's examples.
const (
	door   = 0
	hearth = 1
	niche  = 2

	king  = 0
	nun   = 1
	thief = 2

	none = api.RoNone
)

func span(lo, hi int) api.Span { return api.Span{Lo: lo, Hi: hi} }

func place(name string, dear bool, joists int, warms ...api.Span) api.RoPlace {
	return api.RoPlace{Name: name, Dear: dear, Warms: warms, Joists: joists}
}

func figure(name string, class, weight, cracks, slumps, worth int) api.RoFigure {
	return api.RoFigure{Name: name, Class: class, Weight: weight, Cracks: cracks, Slumps: slumps, Worth: worth}
}

func plan(lit int, at ...int) api.RoPlan { return api.RoPlan{Lit: lit, At: at} }

// example is H of the chapter's examples, with another bill.
func example(bill ...int) api.RoHouse {
	return api.RoHouse{
		Weather: span(30, 50),
		Stoves:  1,
		Holds:   []int{300, 250},
		Places: []api.RoPlace{
			place("door", false, 1, span(0, 2)),
			place("hearth", true, 3, span(15, 20)),
			place("niche", true, 2, span(8, 10)),
		},
		Figures: []api.RoFigure{
			figure("king", 1, 200, 40, 75, 9),
			figure("nun", 2, 150, 30, 60, 5),
			figure("thief", 3, 120, 35, 65, 7),
		},
		Bill: bill,
	}
}

// exampleH is H of the chapter's examples.
func exampleH() api.RoHouse { return example(3) }

// house is a house of 20 degrees, without stoves and joists, with so many places, all dear.
func house(places int, figures ...api.RoFigure) api.RoHouse {
	h := api.RoHouse{Weather: span(20, 20), Figures: figures}
	for i := range places {
		h.Places = append(h.Places, place(string(rune('a'+i)), true, 0))
	}
	return h
}

// hardy is a figure that is safe everywhere.
func hardy(name string, class, worth int) api.RoFigure {
	return figure(name, class, 1, -100, 100, worth)
}

// stoves is a house of 10 to 12 degrees with two places: one is warmed by two stoves, one by none.
func stoves(figures ...api.RoFigure) api.RoHouse {
	return api.RoHouse{
		Weather: span(10, 12),
		Stoves:  2,
		Places:  []api.RoPlace{place("p", false, 0, span(5, 6), span(20, 30)), place("q", false, 0, span(0, 0), span(0, 0))},
		Figures: figures,
	}
}

func clone(h api.RoHouse) api.RoHouse {
	h.Holds = slices.Clone(h.Holds)
	h.Places = slices.Clone(h.Places)
	for i := range h.Places {
		h.Places[i].Warms = slices.Clone(h.Places[i].Warms)
	}
	h.Figures = slices.Clone(h.Figures)
	h.Bill = slices.Clone(h.Bill)
	return h
}

func samePlan(p, q api.RoPlan) bool { return p.Lit == q.Lit && slices.Equal(p.At, q.At) }

// change is a house that something was done to, and what Check says of it.
type change struct {
	name     string
	do       func(h *api.RoHouse)
	part, at int
	e        api.Errno
}

func (c change) house() api.RoHouse {
	h := exampleH()
	c.do(&h)
	return h
}

func manyPlaces(many int) []api.RoPlace {
	var list []api.RoPlace
	for i := range many {
		list = append(list, place(string(rune('a'+i)), i%2 == 0, 0, span(i, i)))
	}
	return list
}

func manyFigures(many int) []api.RoFigure {
	var list []api.RoFigure
	for i := range many {
		list = append(list, hardy(string(rune('a'+i)), i, i))
	}
	return list
}

// outside are numbers that are not from lo to hi.
func outside(lo, hi int) []int { return []int{math.MinInt, lo - 1, hi + 1, math.MaxInt} }

func badWeathers() []change {
	changes := []change{
		{"the weather before all else", func(h *api.RoHouse) {
			*h = api.RoHouse{Weather: span(1, 0), Stoves: -1, Holds: make([]int, 5), Places: make([]api.RoPlace, 6), Figures: make([]api.RoFigure, 6), Bill: make([]int, 4)}
		}, 1, 0, api.ErrArg},
		{"the range of the weather before its order", func(h *api.RoHouse) { h.Weather = span(101, -101) }, 1, 0, api.ErrRange},
		{"Hi of the weather not as stated, and below Lo", func(h *api.RoHouse) { h.Weather = span(0, -101) }, 1, 0, api.ErrRange},
		{"the weather's order", func(h *api.RoHouse) { h.Weather = span(100, -100) }, 1, 0, api.ErrArg},
		{"too many stoves before joists", func(h *api.RoHouse) { h.Stoves, h.Holds = 4, make([]int, 5) }, 2, 0, api.ErrRange},
		{"too many stoves for the places", func(h *api.RoHouse) { h.Stoves = 4 }, 2, 0, api.ErrRange},
	}
	for _, n := range outside(-100, 100) {
		changes = append(changes,
			change{fmt.Sprint("Lo of the weather ", n), func(h *api.RoHouse) { h.Weather.Lo = n }, 1, 0, api.ErrRange},
			change{fmt.Sprint("Hi of the weather ", n), func(h *api.RoHouse) { h.Weather.Hi = n }, 1, 0, api.ErrRange})
	}
	for _, n := range outside(0, 3) {
		changes = append(changes, change{fmt.Sprint("stoves ", n), func(h *api.RoHouse) { h.Stoves = n }, 2, 0, api.ErrRange})
	}
	return changes
}

func badJoists() []change {
	changes := []change{
		{"5 joists", func(h *api.RoHouse) { h.Holds = make([]int, 5) }, 3, 0, api.ErrLong},
		{"too many joists before a wrong one", func(h *api.RoHouse) { h.Holds = []int{0, -1, 0, 0, 0} }, 3, 0, api.ErrLong},
		{"too many joists before places", func(h *api.RoHouse) { h.Holds, h.Places = make([]int, 5), make([]api.RoPlace, 6) }, 3, 0, api.ErrLong},
		{"a joist before places", func(h *api.RoHouse) { h.Holds[1], h.Places = -1, make([]api.RoPlace, 6) }, 3, 1, api.ErrRange},
		{"the first joist decides", func(h *api.RoHouse) { h.Holds = []int{0, 2001, -1} }, 3, 1, api.ErrRange},
	}
	for _, n := range outside(0, 2000) {
		changes = append(changes, change{fmt.Sprint("holds ", n), func(h *api.RoHouse) { h.Holds[0] = n }, 3, 0, api.ErrRange})
	}
	return changes
}

func badPlaces() []change {
	changes := []change{
		{"6 places", func(h *api.RoHouse) { h.Places = manyPlaces(6) }, 4, 0, api.ErrLong},
		{"too many places before a wrong one", func(h *api.RoHouse) { h.Places = make([]api.RoPlace, 6) }, 4, 0, api.ErrLong},
		{"too many places before figures", func(h *api.RoHouse) { h.Places, h.Figures = make([]api.RoPlace, 6), make([]api.RoFigure, 6) }, 4, 0, api.ErrLong},
		{"name of a place", func(h *api.RoHouse) { h.Places[2].Name = "Niche" }, 4, 2, api.ErrForm},
		{"no name of a place", func(h *api.RoHouse) { h.Places[0].Name = "" }, 4, 0, api.ErrForm},
		{"a long name of a place", func(h *api.RoHouse) { h.Places[1].Name = "abcdefghijklmnopq" }, 4, 1, api.ErrForm},
		{"name of a place before all else of it", func(h *api.RoHouse) { h.Places[0] = place("?", true, -1) }, 4, 0, api.ErrForm},
		{"two places of one name", func(h *api.RoHouse) { h.Places[2].Name = "door" }, 4, 2, api.ErrTwice},
		{"two places of one name before Warms", func(h *api.RoHouse) { h.Places[2] = place("hearth", true, -1) }, 4, 2, api.ErrTwice},
		{"too few Warms", func(h *api.RoHouse) { h.Places[1].Warms = nil }, 4, 1, api.ErrLong},
		{"too many Warms", func(h *api.RoHouse) { h.Places[1].Warms = make([]api.Span, 2) }, 4, 1, api.ErrLong},
		{"too many Warms before a wrong one", func(h *api.RoHouse) { h.Places[1] = place("hearth", true, -1, span(2, 1), span(61, 0)) }, 4, 1, api.ErrLong},
		{"more stoves than Warms", func(h *api.RoHouse) { h.Stoves = 2 }, 4, 0, api.ErrLong},
		{"no stoves, but Warms", func(h *api.RoHouse) { h.Stoves = 0 }, 4, 0, api.ErrLong},
		{"the range of Warms before their order", func(h *api.RoHouse) { h.Places[1].Warms[0] = span(61, -1) }, 4, 1, api.ErrRange},
		{"the order of Warms", func(h *api.RoHouse) { h.Places[1].Warms[0] = span(60, 0) }, 4, 1, api.ErrArg},
		{"the range of Warms before joists", func(h *api.RoHouse) { h.Places[1] = place("hearth", true, -1, span(0, 61)) }, 4, 1, api.ErrRange},
		{"the order of Warms before joists", func(h *api.RoHouse) { h.Places[1] = place("hearth", true, -1, span(1, 0)) }, 4, 1, api.ErrArg},
		{"the first of Warms decides: ErrArg", func(h *api.RoHouse) {
			h.Stoves, h.Places = 3, []api.RoPlace{place("door", true, 0, span(0, 0), span(1, 0), span(61, 61))}
		}, 4, 0, api.ErrArg},
		{"the first of Warms decides: ErrRange", func(h *api.RoHouse) {
			h.Stoves, h.Places = 3, []api.RoPlace{place("door", true, 0, span(0, 0), span(61, 61), span(1, 0))}
		}, 4, 0, api.ErrRange},
		{"a joist of no joists", func(h *api.RoHouse) { h.Holds = nil }, 4, 0, api.ErrNone},
		{"a joist that was taken away", func(h *api.RoHouse) { h.Holds = h.Holds[:1] }, 4, 1, api.ErrNone},
		{"the first place decides", func(h *api.RoHouse) { h.Places[1].Joists, h.Places[2].Name = 4, "" }, 4, 1, api.ErrNone},
		{"a place before figures", func(h *api.RoHouse) { h.Places[2].Joists, h.Figures = -1, make([]api.RoFigure, 6) }, 4, 2, api.ErrNone},
	}
	for _, n := range outside(0, 60) {
		changes = append(changes,
			change{fmt.Sprint("Lo of Warms ", n), func(h *api.RoHouse) { h.Places[2].Warms[0].Lo = n }, 4, 2, api.ErrRange},
			change{fmt.Sprint("Hi of Warms ", n), func(h *api.RoHouse) { h.Places[2].Warms[0].Hi = n }, 4, 2, api.ErrRange})
	}
	for _, n := range append(outside(0, 3), 5, 7, 1<<62) {
		changes = append(changes, change{fmt.Sprint("joists ", n), func(h *api.RoHouse) { h.Places[1].Joists = n }, 4, 1, api.ErrNone})
	}
	return changes
}

func badFigures() []change {
	changes := []change{
		{"6 figures", func(h *api.RoHouse) { h.Figures = manyFigures(6) }, 5, 0, api.ErrLong},
		{"too many figures before a wrong one", func(h *api.RoHouse) { h.Figures = make([]api.RoFigure, 6) }, 5, 0, api.ErrLong},
		{"too many figures before the bill", func(h *api.RoHouse) { h.Figures, h.Bill = make([]api.RoFigure, 6), make([]int, 4) }, 5, 0, api.ErrLong},
		{"name of a figure", func(h *api.RoHouse) { h.Figures[1].Name = "9nun" }, 5, 1, api.ErrForm},
		{"name of a figure before all else of it", func(h *api.RoHouse) { h.Figures[2] = figure("", -1, 0, 1, 0, -1) }, 5, 2, api.ErrForm},
		{"two figures of one name", func(h *api.RoHouse) { h.Figures[2].Name = "nun" }, 5, 2, api.ErrTwice},
		{"two figures of one name before a number", func(h *api.RoHouse) { h.Figures[1] = figure("king", 10, 0, 1, 0, -1) }, 5, 1, api.ErrTwice},
		{"Cracks above Slumps", func(h *api.RoHouse) { h.Figures[0].Cracks = 76 }, 5, 0, api.ErrArg},
		{"Cracks far above Slumps", func(h *api.RoHouse) { h.Figures[2].Cracks, h.Figures[2].Slumps = 100, -100 }, 5, 2, api.ErrArg},
		{"the class before Cracks above Slumps", func(h *api.RoHouse) { h.Figures[1] = figure("nun", 10, 1, 1, 0, 0) }, 5, 1, api.ErrRange},
		{"the weight before Cracks above Slumps", func(h *api.RoHouse) { h.Figures[1] = figure("nun", 0, 0, 1, 0, 0) }, 5, 1, api.ErrRange},
		{"the worth before Cracks above Slumps", func(h *api.RoHouse) { h.Figures[1] = figure("nun", 0, 1, 1, 0, 101) }, 5, 1, api.ErrRange},
		{"the range of Cracks before their order", func(h *api.RoHouse) { h.Figures[1].Cracks = 101 }, 5, 1, api.ErrRange},
		{"the first figure decides", func(h *api.RoHouse) { h.Figures[0].Cracks, h.Figures[1].Name = 76, "" }, 5, 0, api.ErrArg},
		{"a figure before the bill", func(h *api.RoHouse) { h.Figures[2].Cracks, h.Bill = 66, make([]int, 4) }, 5, 2, api.ErrArg},
	}
	for _, f := range []struct {
		name   string
		lo, hi int
		of     func(f *api.RoFigure) *int
	}{
		{"Class", 0, 9, func(f *api.RoFigure) *int { return &f.Class }},
		{"Weight", 1, 500, func(f *api.RoFigure) *int { return &f.Weight }},
		{"Cracks", -100, 100, func(f *api.RoFigure) *int { return &f.Cracks }},
		{"Slumps", -100, 100, func(f *api.RoFigure) *int { return &f.Slumps }},
		{"Worth", 0, 100, func(f *api.RoFigure) *int { return &f.Worth }},
	} {
		for _, n := range outside(f.lo, f.hi) {
			changes = append(changes, change{fmt.Sprint(f.name, " ", n), func(h *api.RoHouse) { *f.of(&h.Figures[nun]) = n }, 5, nun, api.ErrRange})
		}
	}
	return changes
}

func badBills() []change {
	changes := []change{
		{"4 numbers of the bill", func(h *api.RoHouse) { h.Bill = []int{3, 3, 3, 3} }, 6, 0, api.ErrLong},
		{"too many numbers of the bill before a wrong one", func(h *api.RoHouse) { h.Bill = []int{-1, 10, -1, 10} }, 6, 0, api.ErrLong},
		{"the first number of the bill decides", func(h *api.RoHouse) { h.Bill = []int{0, 10, -1} }, 6, 1, api.ErrRange},
	}
	for _, n := range outside(0, 9) {
		changes = append(changes, change{fmt.Sprint("the bill ", n), func(h *api.RoHouse) { h.Bill = []int{1, 2, n} }, 6, 2, api.ErrRange})
	}
	return changes
}

func badHouses() []change {
	return slices.Concat(badWeathers(), badJoists(), badPlaces(), badFigures(), badBills())
}

func goodHouses() []change {
	return []change{
		{name: "the example", do: func(h *api.RoHouse) {}},
		{name: "nothing", do: func(h *api.RoHouse) { *h = api.RoHouse{} }},
		{name: "as many of all as can be", do: func(h *api.RoHouse) {
			h.Holds, h.Places, h.Figures, h.Bill = make([]int, 4), manyPlaces(5), manyFigures(5), []int{0, 0, 0}
		}},
		{name: "the greatest numbers", do: func(h *api.RoHouse) {
			h.Weather, h.Stoves, h.Holds = span(100, 100), 3, []int{2000, 2000, 2000, 2000}
			h.Places = []api.RoPlace{place("abcdefghijklmnop", true, 15, span(60, 60), span(60, 60), span(60, 60))}
			h.Figures = []api.RoFigure{figure("abcdefghijklmnop", 9, 500, 100, 100, 100)}
			h.Bill = []int{9, 9, 9}
		}},
		{name: "the least numbers", do: func(h *api.RoHouse) {
			h.Weather, h.Holds = span(-100, -100), []int{0}
			h.Places = []api.RoPlace{place("a", false, 0, span(0, 0))}
			h.Figures = []api.RoFigure{figure("a", 0, 1, -100, -100, 0)}
			h.Bill = []int{0}
		}},
		{name: "the widest spans", do: func(h *api.RoHouse) { h.Weather, h.Places[0].Warms[0] = span(-100, 100), span(0, 60) }},
		{name: "a figure with the name of a place", do: func(h *api.RoHouse) { h.Figures[0].Name = "door" }},
		{name: "a bill of classes that no figure has", do: func(h *api.RoHouse) { h.Bill = []int{7, 7, 8} }},
	}
}

func TestP5_1Check(t *testing.T) {
	for _, c := range slices.Concat(badHouses(), goodHouses()) {
		if part, at, e := room.Check(c.house()); part != c.part || at != c.at || e != c.e {
			t.Errorf("%s: Check = %d, %d, %d, not %d, %d, %d", c.name, part, at, e, c.part, c.at, c.e)
		}
	}
}

func TestErrorOfTheHouseComesFirst(t *testing.T) {
	for _, c := range badHouses() {
		h, wrong := c.house(), plan(-1, 9)
		warmth, e1 := room.Warmth(h, -1, -1)
		fate, e2 := room.Fate(h, 9, 9, 9)
		loads, e3 := room.Loads(h, wrong)
		shows, e4 := room.Shows(h, wrong)
		best, worth, e5 := room.Best(h)
		breaks, e6 := room.Breaks(h)
		never, e7 := room.Never(h)
		needs, e8 := room.Needs(h, -1)
		first, degrees, e9 := room.Margin(h, wrong)
		for i, e := range []api.Errno{e1, e2, e3, e4, e5, e6, e7, e8, e9} {
			if e != c.e {
				t.Errorf("%s: function %d returns %d, not %d", c.name, i, e, c.e)
			}
		}
		numbers := []int{warmth.Lo, warmth.Hi, fate, shows, best.Lit, worth, needs, first, degrees}
		if len(loads)+len(best.At)+len(breaks)+len(never) > 0 || slices.ContainsFunc(numbers, func(n int) bool { return n != 0 }) {
			t.Errorf("%s: a result beside the error", c.name)
		}
	}
}

func TestP5_2Warmth(t *testing.T) {
	full := api.RoHouse{Weather: span(-100, 100), Stoves: 3, Places: []api.RoPlace{place("a", false, 0, span(60, 60), span(0, 60), span(1, 2))}}
	for i, c := range []struct {
		h          api.RoHouse
		place, lit int
		want       api.Span
		e          api.Errno
	}{
		{exampleH(), hearth, 1, span(45, 70), api.OK},
		{exampleH(), hearth, 0, span(30, 50), api.OK},
		{exampleH(), door, 1, span(30, 52), api.OK},
		{exampleH(), niche, 1, span(38, 60), api.OK},
		{stoves(), 0, 0, span(10, 12), api.OK},
		{stoves(), 0, 1, span(15, 18), api.OK},
		{stoves(), 0, 2, span(30, 42), api.OK},
		{stoves(), 0, 3, span(35, 48), api.OK},
		{stoves(), 1, 3, span(10, 12), api.OK},
		{full, 0, 7, span(-39, 222), api.OK},
		{full, 0, 5, span(-39, 162), api.OK},
		{full, 0, 4, span(-99, 102), api.OK},
		{house(1), 0, 0, span(20, 20), api.OK},
		{exampleH(), 3, 0, span(0, 0), api.ErrNone},
		{exampleH(), -1, 0, span(0, 0), api.ErrNone},
		{exampleH(), math.MaxInt, 9, span(0, 0), api.ErrNone},
		{exampleH(), math.MinInt, -1, span(0, 0), api.ErrNone},
		{exampleH(), door, 2, span(0, 0), api.ErrRange},
		{exampleH(), door, 3, span(0, 0), api.ErrRange},
		{exampleH(), door, -1, span(0, 0), api.ErrRange},
		{exampleH(), door, math.MinInt, span(0, 0), api.ErrRange},
		{exampleH(), door, math.MaxInt, span(0, 0), api.ErrRange},
		{house(1), 0, 1, span(0, 0), api.ErrRange},
		{full, 0, 8, span(0, 0), api.ErrRange},
		{api.RoHouse{}, 0, 0, span(0, 0), api.ErrNone},
	} {
		if got, e := room.Warmth(c.h, c.place, c.lit); got != c.want || e != c.e {
			t.Errorf("%d: Warmth = %v, %d, not %v, %d", i, got, e, c.want, c.e)
		}
	}
}

func TestP5_2Fate(t *testing.T) {
	for i, c := range []struct{ figure, place, lit, want int }{
		{king, hearth, 1, api.RoSafe},
		{king, hearth, 0, api.RoMay},
		{thief, hearth, 1, api.RoMay},
		{thief, niche, 1, api.RoSafe},
		{king, niche, 1, api.RoMay},
		{nun, door, 0, api.RoSafe},
		{nun, door, 1, api.RoSafe},
		{nun, niche, 1, api.RoSafe},
		{nun, hearth, 1, api.RoMay},
	} {
		if got, e := room.Fate(exampleH(), c.figure, c.place, c.lit); got != c.want || e != api.OK {
			t.Errorf("%d: Fate = %d, %d, not %d", i, got, e, c.want)
		}
	}
	// At 10 to 12 degrees.
	for _, c := range []struct{ cracks, slumps, want int }{
		{10, 12, api.RoSafe},
		{-100, 12, api.RoSafe},
		{10, 100, api.RoSafe},
		{11, 12, api.RoMay},
		{10, 11, api.RoMay},
		{11, 11, api.RoMay},
		{12, 50, api.RoMay},
		{12, 12, api.RoMay},
		{-50, 10, api.RoMay},
		{13, 50, api.RoLost},
		{-50, 9, api.RoLost},
		{100, 100, api.RoLost},
		{-100, -100, api.RoLost},
	} {
		h := stoves(figure("f", 0, 1, c.cracks, c.slumps, 0))
		if got, e := room.Fate(h, 0, 1, 0); got != c.want || e != api.OK {
			t.Errorf("%d to %d: Fate = %d, %d, not %d", c.cracks, c.slumps, got, e, c.want)
		}
	}
}

func TestP5_2FateErrors(t *testing.T) {
	for i, c := range []struct {
		h                  api.RoHouse
		figure, place, lit int
		want               api.Errno
	}{
		{exampleH(), 3, 0, 0, api.ErrNone},
		{exampleH(), -1, 0, 0, api.ErrNone},
		{exampleH(), 0, 3, 0, api.ErrNone},
		{exampleH(), 0, -1, 0, api.ErrNone},
		{exampleH(), math.MinInt, math.MaxInt, -1, api.ErrNone},
		{exampleH(), 3, 3, 2, api.ErrNone},
		{exampleH(), 0, 3, 2, api.ErrNone},
		{exampleH(), 0, 0, 2, api.ErrRange},
		{exampleH(), 0, 0, -1, api.ErrRange},
		{exampleH(), 2, 2, math.MaxInt, api.ErrRange},
		{exampleH(), 2, 2, math.MinInt, api.ErrRange},
		{house(0, hardy("a", 0, 0)), 0, 0, 0, api.ErrNone},
		{house(1), 0, 0, 0, api.ErrNone},
	} {
		if got, e := room.Fate(c.h, c.figure, c.place, c.lit); got != 0 || e != c.want {
			t.Errorf("%d: Fate = %d, %d, not 0, %d", i, got, e, c.want)
		}
	}
}

func TestP5_3Loads(t *testing.T) {
	four := house(2, figure("a", 0, 500, 90, 100, 0), figure("b", 0, 1, 90, 100, 0))
	four.Holds = []int{0, 0, 0, 0}
	four.Places[0].Joists, four.Places[1].Joists = 15, 10
	for i, c := range []struct {
		h    api.RoHouse
		p    api.RoPlan
		want []int
	}{
		{exampleH(), plan(1, hearth, door, niche), []int{350, 320}},
		{exampleH(), plan(1, none, door, niche), []int{150, 120}},
		{exampleH(), plan(0, none, none, none), []int{0, 0}},
		{exampleH(), plan(0, none, none, hearth), []int{120, 120}},
		{exampleH(), plan(1, door, none, hearth), []int{320, 120}},
		{four, plan(0, 0, 1), []int{500, 501, 500, 501}}, // whether it is allowed or not
		{four, plan(0, 1, 0), []int{1, 501, 1, 501}},
		{four, plan(0, none, 1), []int{0, 1, 0, 1}},
		{house(1, hardy("a", 0, 0)), plan(0, 0), nil},
		{api.RoHouse{Holds: []int{7}}, plan(0), []int{0}},
	} {
		if got, e := room.Loads(c.h, c.p); !slices.Equal(got, c.want) || e != api.OK {
			t.Errorf("%d: Loads = %v, %d, not %v", i, got, e, c.want)
		}
	}
}

func TestP5_3Shows(t *testing.T) {
	two := house(2, hardy("a", 4, 10), hardy("b", 4, 20), hardy("c", 5, 40))
	two.Places[1].Dear = false
	with := func(bill ...int) api.RoHouse {
		h := clone(two)
		h.Bill = bill
		return h
	}
	held := func(holds int) api.RoHouse {
		h := exampleH()
		h.Holds[1] = holds
		return h
	}
	for i, c := range []struct {
		h    api.RoHouse
		p    api.RoPlan
		want int
		e    api.Errno
	}{
		{exampleH(), plan(1, none, door, niche), 12, api.OK},
		{exampleH(), plan(1, hearth, none, niche), 0, api.ErrDown},
		{exampleH(), plan(1, hearth, door, none), 0, api.ErrDown},
		{exampleH(), plan(1, none, none, niche), 7, api.OK},
		{exampleH(), plan(0, none, none, niche), 0, api.ErrDown}, // it cracks
		{exampleH(), plan(1, none, none, none), 0, api.ErrDown},
		{example(), plan(1, none, none, none), 0, api.OK},
		{example(), plan(0, none, none, none), 0, api.OK},
		{example(), plan(1, hearth, none, none), 9, api.OK},
		{example(), plan(0, hearth, none, none), 0, api.ErrDown},
		{held(320), plan(1, hearth, none, niche), 16, api.OK},
		{held(319), plan(1, hearth, none, niche), 0, api.ErrDown},
		// There must be as many as are promised, in the dear room.
		{with(), plan(0, 0, none, 1), 50, api.OK},
		{with(4), plan(0, 0, none, 1), 50, api.OK},
		{with(4), plan(0, 1, none, 0), 0, api.ErrDown},
		{with(5), plan(0, 1, none, 0), 50, api.OK},
		{with(4, 4), plan(0, 0, 1, none), 0, api.ErrDown},
		{with(4, 5), plan(0, 0, none, 1), 0, api.ErrDown},
		{with(6), plan(0, 0, none, 1), 0, api.ErrDown},
		{api.RoHouse{}, plan(0), 0, api.OK},
		{api.RoHouse{Bill: []int{0}}, plan(0), 0, api.ErrDown},
	} {
		if got, e := room.Shows(c.h, c.p); got != c.want || e != c.e {
			t.Errorf("%d: Shows = %d, %d, not %d, %d", i, got, e, c.want, c.e)
		}
	}
	two.Places[1].Dear = true
	if got, e := room.Shows(with(4, 4), plan(0, 0, 1, none)); got != 30 || e != api.OK {
		t.Errorf("with two promises of a class: Shows = %d, %d", got, e)
	}
}

// badPlans are plans of the example with an error.
func badPlans() []struct {
	p api.RoPlan
	e api.Errno
} {
	return []struct {
		p api.RoPlan
		e api.Errno
	}{
		{plan(2, none, door, niche), api.ErrRange},
		{plan(-1, none, door, niche), api.ErrRange},
		{plan(math.MinInt, none, door, niche), api.ErrRange},
		{plan(math.MaxInt, none, door, niche), api.ErrRange},
		{plan(2, 9), api.ErrRange},
		{plan(1), api.ErrLong},
		{plan(1, none, door), api.ErrLong},
		{plan(1, none, door, niche, none), api.ErrLong},
		{plan(1, 9, 9), api.ErrLong},
		{plan(1, 3, door, niche), api.ErrNone},
		{plan(1, none, door, -2), api.ErrNone},
		{plan(1, math.MinInt, door, niche), api.ErrNone},
		{plan(1, none, door, math.MaxInt), api.ErrNone},
		{plan(1, door, door, 3), api.ErrNone}, // whichever comes first
		{plan(1, 3, 3, 3), api.ErrNone},
		{plan(1, door, none, door), api.ErrTwice},
		{plan(1, none, niche, niche), api.ErrTwice},
		{plan(1, hearth, hearth, hearth), api.ErrTwice},
	}
}

func TestP5_3ErrorOfThePlan(t *testing.T) {
	for _, c := range badPlans() {
		loads, e1 := room.Loads(exampleH(), c.p)
		shows, e2 := room.Shows(exampleH(), c.p)
		first, degrees, e3 := room.Margin(exampleH(), c.p)
		if e1 != c.e || e2 != c.e || e3 != c.e {
			t.Errorf("%v: %d, %d, %d, not %d", c.p, e1, e2, e3, c.e)
		}
		if len(loads) > 0 || shows != 0 || first != 0 || degrees != 0 {
			t.Errorf("%v: a result beside the error", c.p)
		}
	}
	for _, p := range []api.RoPlan{plan(0, none, none, none), plan(1, none, none, none), plan(0, hearth, niche, door)} {
		if _, e := room.Loads(exampleH(), p); e != api.OK {
			t.Errorf("%v: Loads: %d", p, e)
		}
	}
	if _, e := room.Loads(api.RoHouse{}, plan(0, none)); e != api.ErrLong {
		t.Errorf("a place for no figure: Loads: %d", e)
	}
}

func TestP5_4Best(t *testing.T) {
	three := api.RoHouse{Weather: span(10, 10), Stoves: 3, Places: []api.RoPlace{place("p", false, 0, span(10, 10), span(10, 10), span(20, 20))}}
	heated := func(degrees ...int) api.RoHouse {
		h := clone(three)
		for i, d := range degrees {
			h.Figures = append(h.Figures, figure(string(rune('a'+i)), 0, 1, d, d, i+1))
		}
		return h
	}
	strong := exampleH()
	strong.Holds = []int{350, 320}
	for i, c := range []struct {
		h     api.RoHouse
		want  api.RoPlan
		worth int
	}{
		{exampleH(), plan(1, none, door, niche), 12},
		{example(), plan(1, none, door, niche), 12},
		{strong, plan(1, hearth, door, niche), 21},
		{example(1), plan(1, hearth, none, none), 9},
		{example(2), plan(0, none, hearth, none), 5},
		{api.RoHouse{}, plan(0), 0},
		{house(1), plan(0), 0},
		{house(0, hardy("a", 0, 3)), plan(0, none), 0},
		// The stoves that are lit are compared first, as a number.
		{heated(30), plan(3, 0), 1},
		{heated(20), plan(1, 0), 1},
		{heated(10), plan(0, 0), 1},
		{heated(40), plan(5, 0), 1},
		{heated(10, 30, 50), plan(7, none, none, 0), 3},
		{heated(50, 10), plan(0, none, 0), 2},
		// One that shows a figure comes before one that does not, and a lesser place before a greater one.
		{house(2, hardy("a", 0, 0)), plan(0, 0), 0},
		{house(2, hardy("a", 0, 0), hardy("b", 0, 0), hardy("c", 0, 0)), plan(0, 0, 1, none), 0},
		{house(1, hardy("a", 0, 3), hardy("b", 0, 3)), plan(0, 0, none), 3},
		{house(1, hardy("a", 0, 3), hardy("b", 0, 4)), plan(0, none, 0), 4},
		{house(5, hardy("a", 0, 1), hardy("b", 0, 2), hardy("c", 0, 3), hardy("d", 0, 4), hardy("e", 0, 100)), plan(0, 0, 1, 2, 3, 4), 110},
	} {
		got, worth, e := room.Best(c.h)
		if !samePlan(got, c.want) || worth != c.worth || e != api.OK {
			t.Errorf("%d: Best = %v, %d, %d, not %v, %d", i, got, worth, e, c.want, c.worth)
		}
	}
}

func TestP5_4Never(t *testing.T) {
	cold := house(2, hardy("a", 0, 0), figure("b", 0, 1, 21, 50, 9), hardy("c", 0, 0), figure("d", 0, 1, -50, 19, 9))
	heavy := house(2, figure("a", 1, 60, 0, 50, 0), figure("b", 2, 41, 0, 50, 100), figure("c", 3, 40, 0, 50, 0))
	heavy.Holds, heavy.Places[0].Joists, heavy.Places[1].Joists, heavy.Bill = []int{100}, 1, 1, []int{1}
	for i, c := range []struct {
		h    api.RoHouse
		want []int
	}{
		{exampleH(), []int{king}},
		{example(), nil},
		{example(1), []int{nun, thief}},
		{cold, []int{1, 3}},
		{heavy, []int{1}},
		{house(0, hardy("a", 0, 1), hardy("b", 0, 2)), []int{0, 1}},
		{house(1, hardy("a", 0, 0), hardy("b", 0, 2)), nil}, // though the best plan does not show the first one
		{api.RoHouse{}, nil},
	} {
		if got, e := room.Never(c.h); !slices.Equal(got, c.want) || e != api.OK {
			t.Errorf("%d: Never = %v, %d, not %v", i, got, e, c.want)
		}
	}
}

// broken are houses whose bill cannot be kept, and the first of the fewest numbers of it that must be left out.
func broken() []struct {
	h    api.RoHouse
	want []int
} {
	bill := func(h api.RoHouse, bill ...int) api.RoHouse {
		h.Bill = bill
		return h
	}
	one := house(1, hardy("a", 1, 1), hardy("b", 2, 2))
	cheap := clone(one)
	cheap.Places[0].Dear = false
	return []struct {
		h    api.RoHouse
		want []int
	}{
		{example(1, 3), []int{0}},
		{example(3, 1), []int{0}},
		{example(3, 3), []int{0}},
		{example(4), []int{0}},
		{example(3, 4), []int{1}},
		{example(3, 4, 3), []int{0, 1}},
		{example(2, 4, 2), []int{0, 1}},
		{example(4, 2, 2), []int{0, 1}},
		{example(2, 2, 4), []int{0, 2}},
		{example(4, 2, 4), []int{0, 2}},
		{example(4, 4, 2), []int{0, 1}},
		{example(4, 5, 6), []int{0, 1, 2}},
		{bill(one, 1, 2), []int{0}},
		{bill(one, 1, 2, 1), []int{0, 1}},
		{bill(cheap, 1), []int{0}},
		{bill(api.RoHouse{}, 0, 0, 0), []int{0, 1, 2}},
		{bill(house(5), 9), []int{0}},
	}
}

func TestP5_4NoneIsAllowed(t *testing.T) {
	for i, c := range broken() {
		p, worth, e := room.Best(c.h)
		never, f := room.Never(c.h)
		if e != api.ErrDown || f != api.ErrDown || !samePlan(p, plan(0)) || worth != 0 || len(never) > 0 {
			t.Errorf("%d: Best = %v, %d, %d; Never = %v, %d", i, p, worth, e, never, f)
		}
	}
}

func TestP5_5Breaks(t *testing.T) {
	for i, c := range broken() {
		if got, e := room.Breaks(c.h); !slices.Equal(got, c.want) || e != api.OK {
			t.Errorf("%d: Breaks = %v, %d, not %v", i, got, e, c.want)
		}
	}
	for i, h := range []api.RoHouse{exampleH(), example(), example(1), example(2), api.RoHouse{}, house(0, hardy("a", 0, 1))} {
		if got, e := room.Breaks(h); len(got) > 0 || e != api.OK {
			t.Errorf("kept %d: Breaks = %v, %d", i, got, e)
		}
	}
}

func TestP5_6Needs(t *testing.T) {
	two := stoves(figure("a", 0, 1, 30, 50, 0), figure("b", 0, 1, 35, 50, 0), figure("c", 0, 1, 14, 18, 0), hardy("d", 0, 0), figure("e", 0, 1, 90, 99, 0))
	three := api.RoHouse{Weather: span(10, 10), Stoves: 3, Places: []api.RoPlace{place("p", false, 0, span(10, 10), span(10, 10), span(20, 20))}}
	for _, d := range []int{30, 20, 50, 40, 10} {
		three.Figures = append(three.Figures, figure(fmt.Sprint("f", d), 0, 1, d, d, 0))
	}
	for i, c := range []struct {
		h            api.RoHouse
		figure, want int
		e            api.Errno
	}{
		{exampleH(), king, 1, api.OK},
		{exampleH(), nun, 0, api.OK},
		{exampleH(), thief, 1, api.OK},
		{example(7), king, 1, api.OK}, // whatever the bill, or the joists
		{two, 0, 2, api.OK},
		{two, 1, 3, api.OK},
		{two, 2, 1, api.OK},
		{two, 3, 0, api.OK},
		{two, 4, 0, api.ErrDown},
		{three, 0, 4, api.OK}, // one stove, though two with lesser bits would do
		{three, 1, 1, api.OK},
		{three, 2, 7, api.OK},
		{three, 3, 5, api.OK}, // the lesser of two pairs
		{three, 4, 0, api.OK},
		{house(1, figure("a", 0, 1, 21, 30, 0)), 0, 0, api.ErrDown},
		{house(0, hardy("a", 0, 0)), 0, 0, api.ErrDown},
		{exampleH(), 3, 0, api.ErrNone},
		{exampleH(), -1, 0, api.ErrNone},
		{exampleH(), math.MinInt, 0, api.ErrNone},
		{exampleH(), math.MaxInt, 0, api.ErrNone},
		{api.RoHouse{}, 0, 0, api.ErrNone},
	} {
		if got, e := room.Needs(c.h, c.figure); got != c.want || e != c.e {
			t.Errorf("%d: Needs = %d, %d, not %d, %d", i, got, e, c.want, c.e)
		}
	}
	weak := exampleH()
	weak.Holds = []int{0, 0}
	if got, e := room.Needs(weak, king); got != 1 || e != api.OK {
		t.Errorf("with weak joists: Needs = %d, %d", got, e)
	}
}

func TestP5_7Margin(t *testing.T) {
	deep := house(1, figure("a", 0, 1, -100, 100, 0))
	deep.Weather, deep.Stoves, deep.Places[0].Warms = span(-100, -100), 3, []api.Span{span(30, 30), span(60, 60), span(0, 9)}
	for i, c := range []struct {
		h               api.RoHouse
		p               api.RoPlan
		figure, degrees int
		e               api.Errno
	}{
		{exampleH(), plan(1, none, door, niche), nun, 0, api.OK},
		{exampleH(), plan(1, none, none, niche), thief, 3, api.OK},
		{example(), plan(1, hearth, none, none), king, 5, api.OK},
		{example(), plan(1, none, niche, none), nun, 0, api.OK},
		{house(2, figure("a", 0, 1, 10, 50, 0), figure("b", 0, 1, 0, 30, 0)), plan(0, 0, 1), 0, 10, api.OK},
		{house(2, figure("a", 0, 1, 9, 50, 0), figure("b", 0, 1, 0, 30, 0)), plan(0, 0, 1), 1, 10, api.OK},
		{house(2, figure("a", 0, 1, 0, 50, 0), figure("b", 0, 1, 0, 29, 0)), plan(0, 1, 0), 1, 9, api.OK},
		{house(2, figure("a", 0, 1, 20, 20, 0), figure("b", 0, 1, 0, 29, 0)), plan(0, none, 0), 1, 9, api.OK},
		{house(1, figure("a", 0, 1, -100, 100, 0)), plan(0, 0), 0, 80, api.OK},
		// The weather can be worse than that of any house.
		{deep, plan(0, 0), 0, 0, api.OK},
		{deep, plan(1, 0), 0, 30, api.OK},
		{deep, plan(3, 0), 0, 90, api.OK},
		{deep, plan(7, 0), 0, 90, api.OK},
		{example(), plan(0, none, none, none), 0, 0, api.ErrNone},
		{api.RoHouse{}, plan(0), 0, 0, api.ErrNone},
		{exampleH(), plan(0, none, none, none), 0, 0, api.ErrDown},
		{exampleH(), plan(1, hearth, none, niche), 0, 0, api.ErrDown},
	} {
		figure, degrees, e := room.Margin(c.h, c.p)
		if figure != c.figure || degrees != c.degrees || e != c.e {
			t.Errorf("%d: Margin = %d, %d, %d, not %d, %d, %d", i, figure, degrees, e, c.figure, c.degrees, c.e)
		}
	}
}

// callAll calls every function, and returns all results as a text.
func callAll(h api.RoHouse, figure, place, lit int, p api.RoPlan) string {
	var out []any
	call := func(results ...any) { out = append(out, results...) }
	call(room.Check(h))
	call(room.Warmth(h, place, lit))
	call(room.Fate(h, figure, place, lit))
	call(room.Loads(h, p))
	call(room.Shows(h, p))
	call(room.Best(h))
	call(room.Breaks(h))
	call(room.Never(h))
	call(room.Needs(h, figure))
	call(room.Margin(h, p))
	return fmt.Sprint(out...)
}

func TestP5_17AnyArguments(t *testing.T) {
	odd := []int{math.MinInt, -101, -2, -1, 0, 1, 2, 3, 4, 9, 63, 64, 100, 2001, math.MaxInt}
	houses := []api.RoHouse{{}, {Holds: make([]int, 1000), Places: make([]api.RoPlace, 1000), Figures: make([]api.RoFigure, 1000), Bill: make([]int, 1000)}, exampleH(), example(1, 3)}
	for _, n := range odd {
		for _, do := range []func(h *api.RoHouse){
			func(h *api.RoHouse) { h.Weather = span(n, n) },
			func(h *api.RoHouse) { h.Stoves = n },
			func(h *api.RoHouse) { h.Holds[1] = n },
			func(h *api.RoHouse) { h.Places[1].Warms[0] = span(n, n) },
			func(h *api.RoHouse) { h.Places[1].Warms = make([]api.Span, max(0, min(n, 1001))) },
			func(h *api.RoHouse) { h.Places[1].Joists = n },
			func(h *api.RoHouse) { h.Figures[1] = figure("nun", n, n, n, n, n) },
			func(h *api.RoHouse) { h.Figures[1].Slumps = n },
			func(h *api.RoHouse) { h.Bill = []int{n, n} },
			func(h *api.RoHouse) { h.Places[1].Name = strings.Repeat("a", max(0, min(n, 1001))) },
		} {
			houses = append(houses, change{do: do}.house())
		}
	}
	for _, h := range houses {
		before := fmt.Sprint(h)
		for _, n := range odd {
			p := plan(n, n, none, none)
			first := callAll(h, n, n, n, p)
			if again := callAll(h, n, n, n, p); again != first {
				t.Fatalf("%v, %d: %s, and then %s", h, n, first, again)
			}
			if !samePlan(p, plan(n, n, none, none)) {
				t.Fatalf("%v was modified", p)
			}
			callAll(h, 0, n, 1, plan(1, none, n, n))
			callAll(h, 0, 0, n, plan(n, none, none, none))
			callAll(h, n, 0, 0, plan(0, make([]int, max(0, min(n, 1001)))...))
		}
		if fmt.Sprint(h) != before {
			t.Errorf("%s was modified: %v", before, h)
		}
	}
}

func TestP5_17NewMemory(t *testing.T) {
	h, p := exampleH(), plan(1, none, door, niche)
	promised := example(1, 3)
	before := fmt.Sprint(h, p, promised)
	text := callAll(h, 0, 0, 0, p)
	loads, _ := room.Loads(h, p)
	best, _, _ := room.Best(h)
	never, _ := room.Never(h)
	breaks, _ := room.Breaks(promised)
	loads[0], best.At[1], never[0], breaks[0] = 4, 4, 4, 4
	_ = append(best.At[:1], 9)
	if fmt.Sprint(h, p, promised) != before || callAll(h, 0, 0, 0, p) != text {
		t.Error("a result shares memory with an argument, or is kept")
	}
}

func TestP5_17NilAndEmpty(t *testing.T) {
	empty := api.RoHouse{Holds: []int{}, Places: []api.RoPlace{}, Figures: []api.RoFigure{}, Bill: []int{}}
	if a, b := callAll(api.RoHouse{}, 0, 0, 0, plan(0)), callAll(empty, 0, 0, 0, plan(0, []int{}...)); a != b {
		t.Errorf("%s, and %s", a, b)
	}
	warm := house(1, hardy("a", 0, 0))
	cold := clone(warm)
	cold.Places[0].Warms = []api.Span{}
	if a, b := callAll(warm, 0, 0, 0, plan(0, 0)), callAll(cold, 0, 0, 0, plan(0, 0)); a != b {
		t.Errorf("%s, and %s", a, b)
	}
}

// full is a house with as many plans as can be, none of which keeps the bill if it promises something.
func full(bill ...int) api.RoHouse {
	h := api.RoHouse{Weather: span(10, 20), Stoves: 3, Holds: []int{2000, 2000, 2000, 2000}, Figures: manyFigures(5), Bill: bill}
	for i := range 5 {
		h.Places = append(h.Places, place(string(rune('a'+i)), true, 15, span(0, 9), span(9, 10), span(3, 4)))
	}
	return h
}

func BenchmarkBest(b *testing.B) {
	h := full()
	for b.Loop() {
		room.Best(h)
	}
}

func BenchmarkBreaks(b *testing.B) {
	h := full(9, 9, 9)
	for b.Loop() {
		room.Breaks(h)
	}
}
