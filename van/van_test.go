package van_test

import (
	"fmt"
	"math"
	"slices"
	"strings"
	"testing"

	"ceroplast/api"
	"ceroplast/van"
)

// Indices of the vans and crates of the chapter's examples.
const (
	red  = 0
	blue = 1

	heads = 0
	wigs  = 1
	wax   = 2
	glass = 3

	none = api.VaNone
)

func span(lo, hi int) api.Span { return api.Span{Lo: lo, Hi: hi} }

// spans are spans by their ends, one after the other.
func spans(ends ...int) []api.Span {
	var list []api.Span
	for i := 0; i < len(ends); i += 2 {
		list = append(list, span(ends[i], ends[i+1]))
	}
	return list
}

func aVan(name string, room, leave int, ends ...int) api.VaVan {
	return api.VaVan{Name: name, Room: room, Leave: leave, Legs: spans(ends...)}
}

func aCrate(name string, size, stop, by int) api.VaCrate {
	return api.VaCrate{Name: name, Size: size, Stop: stop, By: by}
}

func aPair(a, b int) api.VaPair { return api.VaPair{A: a, B: b} }

// example is U of the chapter's examples, with other pairs.
func example(apart ...api.VaPair) api.VaTrain {
	return api.VaTrain{
		Vans:   []api.VaVan{aVan("red", 5, 100, 60, 80, 30, 50), aVan("blue", 4, 160, 50, 60, 30, 40)},
		Stops:  2,
		Handle: 10,
		Crates: []api.VaCrate{aCrate("heads", 2, 0, 190), aCrate("wigs", 1, 1, 250), aCrate("wax", 3, 0, 230), aCrate("glass", 2, 1, 240)},
		Apart:  apart,
	}
}

// exampleU is U of the chapter's examples.
func exampleU() api.VaTrain { return example(aPair(heads, wax)) }

// exampleP is P of the chapter's examples.
func exampleP() []int { return []int{red, red, blue, red} }

// lone is V of the chapter's examples, with other pairs.
func lone(apart ...api.VaPair) api.VaTrain {
	t := example(apart...)
	t.Vans = t.Vans[:1]
	t.Vans[red].Room = 9
	for i := range t.Crates {
		t.Crates[i].By = 400
	}
	return t
}

// exampleV is V of the chapter's examples.
func exampleV() api.VaTrain { return lone(aPair(heads, wax)) }

// long is a train of one van with room for all; it leaves at 0, and takes ten minutes, more or less, to each of three stops. Its crates, of the size 1, are unloaded at these stops, by 100.
func long(handle int, stops ...int) api.VaTrain {
	t := api.VaTrain{Vans: []api.VaVan{aVan("v", 20, 0, 10, 10, 10, 12, 9, 10)}, Stops: 3, Handle: handle}
	for i, stop := range stops {
		t.Crates = append(t.Crates, aCrate(string(rune('a'+i)), 1, stop, 100))
	}
	return t
}

// all is the plan by which so many crates are in the first van.
func all(crates int) []int { return make([]int, crates) }

func behind(crates int) []int { return slices.Repeat([]int{none}, crates) }

func clone(t api.VaTrain) api.VaTrain {
	t.Vans = slices.Clone(t.Vans)
	for i := range t.Vans {
		t.Vans[i].Legs = slices.Clone(t.Vans[i].Legs)
	}
	t.Crates = slices.Clone(t.Crates)
	t.Apart = slices.Clone(t.Apart)
	return t
}

// changed is a train that something was done to.
func changed(t api.VaTrain, do func(t *api.VaTrain)) api.VaTrain {
	t = clone(t)
	do(&t)
	return t
}

// change is something that is done to U, and what Check says of it then.
type change struct {
	name     string
	do       func(t *api.VaTrain)
	part, at int
	e        api.Errno
}

func (c change) train() api.VaTrain { return changed(exampleU(), c.do) }

// outside are numbers that are not from lo to hi.
func outside(lo, hi int) []int { return []int{math.MinInt, lo - 1, hi + 1, math.MaxInt} }

func manyVans(many int) []api.VaVan {
	var list []api.VaVan
	for i := range many {
		list = append(list, aVan(string(rune('a'+i)), i, i, 0, i, i, i))
	}
	return list
}

func manyCrates(many int) []api.VaCrate {
	var list []api.VaCrate
	for i := range many {
		list = append(list, aCrate(string(rune('a'+i)), i+1, i%2, i))
	}
	return list
}

func badNumbers() []change {
	changes := []change{
		{"the number of stops before all else", func(t *api.VaTrain) {
			*t = api.VaTrain{Crates: make([]api.VaCrate, 7), Apart: make([]api.VaPair, 5)}
		}, 1, 0, api.ErrRange},
		{"minutes before vans", func(t *api.VaTrain) { t.Handle, t.Vans = 61, nil }, 1, 0, api.ErrRange},
	}
	for _, n := range outside(1, 3) {
		changes = append(changes, change{fmt.Sprint("stops ", n), func(t *api.VaTrain) { t.Stops = n }, 1, 0, api.ErrRange})
	}
	for _, n := range outside(0, 60) {
		changes = append(changes, change{fmt.Sprint("Handle ", n), func(t *api.VaTrain) { t.Handle = n }, 1, 0, api.ErrRange})
	}
	return changes
}

func badVans() []change {
	changes := []change{
		{"no vans", func(t *api.VaTrain) { t.Vans = nil }, 2, 0, api.ErrLong},
		{"4 vans", func(t *api.VaTrain) { t.Vans = manyVans(4) }, 2, 0, api.ErrLong},
		{"too many vans before a wrong one", func(t *api.VaTrain) { t.Vans = make([]api.VaVan, 4) }, 2, 0, api.ErrLong},
		{"no vans before crates", func(t *api.VaTrain) { t.Vans, t.Crates = nil, make([]api.VaCrate, 7) }, 2, 0, api.ErrLong},
		{"name of a van", func(t *api.VaTrain) { t.Vans[1].Name = "Blue" }, 2, 1, api.ErrForm},
		{"no name of a van", func(t *api.VaTrain) { t.Vans[0].Name = "" }, 2, 0, api.ErrForm},
		{"a long name of a van", func(t *api.VaTrain) { t.Vans[1].Name = "abcdefghijklmnopq" }, 2, 1, api.ErrForm},
		{"name of a van before all else of it", func(t *api.VaTrain) { t.Vans[1] = aVan("?", -1, -1) }, 2, 1, api.ErrForm},
		{"two vans of one name", func(t *api.VaTrain) { t.Vans[1].Name = "red" }, 2, 1, api.ErrTwice},
		{"the third van has the name of the first", func(t *api.VaTrain) { t.Vans = append(t.Vans, t.Vans[0]) }, 2, 2, api.ErrTwice},
		{"two vans of one name before numbers", func(t *api.VaTrain) { t.Vans[1] = aVan("red", -1, -1) }, 2, 1, api.ErrTwice},
		{"the room before legs", func(t *api.VaTrain) { t.Vans[1] = aVan("blue", 21, 0) }, 2, 1, api.ErrRange},
		{"the minute before legs", func(t *api.VaTrain) { t.Vans[1] = aVan("blue", 0, 5001) }, 2, 1, api.ErrRange},
		{"too few legs", func(t *api.VaTrain) { t.Vans[1].Legs = spans(0, 0) }, 2, 1, api.ErrLong},
		{"no legs", func(t *api.VaTrain) { t.Vans[0].Legs = nil }, 2, 0, api.ErrLong},
		{"too many legs", func(t *api.VaTrain) { t.Vans[1].Legs = spans(0, 0, 0, 0, 0, 0) }, 2, 1, api.ErrLong},
		{"too many legs before a wrong one", func(t *api.VaTrain) { t.Vans[1].Legs = spans(2, 1, 0, 601, -1, 0) }, 2, 1, api.ErrLong},
		{"more stops than legs", func(t *api.VaTrain) { t.Stops = 3 }, 2, 0, api.ErrLong},
		{"fewer stops than legs", func(t *api.VaTrain) { t.Stops = 1 }, 2, 0, api.ErrLong},
		{"the range of a leg before its order", func(t *api.VaTrain) { t.Vans[1].Legs[0] = span(601, -1) }, 2, 1, api.ErrRange},
		{"the order of a leg", func(t *api.VaTrain) { t.Vans[0].Legs[1] = span(600, 0) }, 2, 0, api.ErrArg},
		{"the order of a leg, a minute", func(t *api.VaTrain) { t.Vans[0].Legs[1] = span(31, 30) }, 2, 0, api.ErrArg},
		{"the first leg decides: ErrArg", func(t *api.VaTrain) { t.Vans[1].Legs = spans(1, 0, 0, 601) }, 2, 1, api.ErrArg},
		{"the first leg decides: ErrRange", func(t *api.VaTrain) { t.Vans[1].Legs = spans(0, 601, 1, 0) }, 2, 1, api.ErrRange},
		{"the first van decides", func(t *api.VaTrain) { t.Vans[0].Legs[1].Hi, t.Vans[1].Name = 0, "" }, 2, 0, api.ErrArg},
		{"a van before crates", func(t *api.VaTrain) { t.Vans[1].Room, t.Crates = -1, make([]api.VaCrate, 7) }, 2, 1, api.ErrRange},
	}
	for _, f := range []struct {
		name string
		hi   int
		of   func(v *api.VaVan) *int
	}{
		{"Room", 20, func(v *api.VaVan) *int { return &v.Room }},
		{"Leave", 5000, func(v *api.VaVan) *int { return &v.Leave }},
		{"Lo of a leg", 600, func(v *api.VaVan) *int { return &v.Legs[0].Lo }},
		{"Hi of a leg", 600, func(v *api.VaVan) *int { return &v.Legs[1].Hi }},
	} {
		for _, n := range outside(0, f.hi) {
			changes = append(changes, change{fmt.Sprint(f.name, " ", n), func(t *api.VaTrain) { *f.of(&t.Vans[blue]) = n }, 2, blue, api.ErrRange})
		}
	}
	return changes
}

func badCrates() []change {
	changes := []change{
		{"7 crates", func(t *api.VaTrain) { t.Crates = manyCrates(7) }, 3, 0, api.ErrLong},
		{"too many crates before a wrong one", func(t *api.VaTrain) { t.Crates = make([]api.VaCrate, 7) }, 3, 0, api.ErrLong},
		{"too many crates before pairs", func(t *api.VaTrain) { t.Crates, t.Apart = make([]api.VaCrate, 7), make([]api.VaPair, 5) }, 3, 0, api.ErrLong},
		{"name of a crate", func(t *api.VaTrain) { t.Crates[2].Name = "9wax" }, 3, 2, api.ErrForm},
		{"name of a crate before all else of it", func(t *api.VaTrain) { t.Crates[3] = aCrate("", 0, -1, -1) }, 3, 3, api.ErrForm},
		{"two crates of one name", func(t *api.VaTrain) { t.Crates[3].Name = "wigs" }, 3, 3, api.ErrTwice},
		{"two crates of one name before numbers", func(t *api.VaTrain) { t.Crates[1] = aCrate("heads", 0, -1, -1) }, 3, 1, api.ErrTwice},
		{"the first crate decides", func(t *api.VaTrain) { t.Crates[1].Size, t.Crates[2].Name = 0, "" }, 3, 1, api.ErrRange},
		{"a crate before pairs", func(t *api.VaTrain) { t.Crates[3].Stop, t.Apart = 2, make([]api.VaPair, 5) }, 3, 3, api.ErrRange},
		{"a stop that was taken away", func(t *api.VaTrain) {
			t.Stops, t.Vans = 1, []api.VaVan{aVan("red", 5, 100, 60, 80)}
		}, 3, 1, api.ErrRange},
	}
	for _, f := range []struct {
		name   string
		lo, hi int
		of     func(c *api.VaCrate) *int
	}{
		{"Size", 1, 9, func(c *api.VaCrate) *int { return &c.Size }},
		{"Stop", 0, 1, func(c *api.VaCrate) *int { return &c.Stop }},
		{"By", 0, 5000, func(c *api.VaCrate) *int { return &c.By }},
	} {
		for _, n := range outside(f.lo, f.hi) {
			changes = append(changes, change{fmt.Sprint(f.name, " ", n), func(t *api.VaTrain) { *f.of(&t.Crates[wax]) = n }, 3, wax, api.ErrRange})
		}
	}
	return changes
}

func badPairs() []change {
	changes := []change{
		{"5 pairs", func(t *api.VaTrain) { t.Apart = slices.Repeat([]api.VaPair{aPair(0, 1)}, 5) }, 4, 0, api.ErrLong},
		{"too many pairs before a wrong one", func(t *api.VaTrain) { t.Apart = make([]api.VaPair, 5) }, 4, 0, api.ErrLong},
		{"one crate twice", func(t *api.VaTrain) { t.Apart[0] = aPair(2, 2) }, 4, 0, api.ErrArg},
		{"A above B", func(t *api.VaTrain) { t.Apart[0] = aPair(3, 2) }, 4, 0, api.ErrArg},
		{"A above B, and no index", func(t *api.VaTrain) { t.Apart[0] = aPair(4, 2) }, 4, 0, api.ErrNone},
		{"B below A, and no index", func(t *api.VaTrain) { t.Apart[0] = aPair(2, -1) }, 4, 0, api.ErrNone},
		{"the first pair decides: ErrArg", func(t *api.VaTrain) { t.Apart = append(t.Apart, aPair(1, 0), aPair(0, 9)) }, 4, 1, api.ErrArg},
		{"the first pair decides: ErrNone", func(t *api.VaTrain) { t.Apart = append(t.Apart, aPair(0, 9), aPair(1, 0)) }, 4, 1, api.ErrNone},
		{"no crates, but a pair", func(t *api.VaTrain) { t.Crates = nil }, 4, 0, api.ErrNone},
	}
	for _, n := range outside(0, 3) {
		changes = append(changes,
			change{fmt.Sprint("A ", n), func(t *api.VaTrain) { t.Apart[0].A = n }, 4, 0, api.ErrNone},
			change{fmt.Sprint("B ", n), func(t *api.VaTrain) { t.Apart = append(t.Apart, aPair(0, n)) }, 4, 1, api.ErrNone})
	}
	return changes
}

func badTrains() []change {
	return slices.Concat(badNumbers(), badVans(), badCrates(), badPairs())
}

func goodTrains() []change {
	return []change{
		{name: "the example", do: func(t *api.VaTrain) {}},
		{name: "as few of all as can be", do: func(t *api.VaTrain) {
			*t = api.VaTrain{Vans: []api.VaVan{aVan("a", 0, 0, 0, 0)}, Stops: 1}
		}},
		{name: "as many of all as can be", do: func(t *api.VaTrain) {
			t.Vans, t.Crates, t.Apart = manyVans(3), manyCrates(6), slices.Repeat([]api.VaPair{aPair(4, 5)}, 4)
		}},
		{name: "the greatest numbers", do: func(t *api.VaTrain) {
			*t = api.VaTrain{
				Vans:   []api.VaVan{aVan("abcdefghijklmnop", 20, 5000, 600, 600, 600, 600, 600, 600)},
				Stops:  3,
				Handle: 60,
				Crates: []api.VaCrate{aCrate("abcdefghijklmnop", 9, 2, 5000)},
			}
		}},
		{name: "the least numbers", do: func(t *api.VaTrain) {
			*t = api.VaTrain{Vans: []api.VaVan{aVan("a", 0, 0, 0, 0)}, Stops: 1, Crates: []api.VaCrate{aCrate("a", 1, 0, 0)}}
		}},
		{name: "the widest leg", do: func(t *api.VaTrain) { t.Vans[0].Legs[0] = span(0, 600) }},
		{name: "a crate with the name of a van", do: func(t *api.VaTrain) { t.Crates[0].Name = "red" }},
		{name: "a crate that no van has room for", do: func(t *api.VaTrain) { t.Crates[0].Size = 9 }},
		{name: "no pairs", do: func(t *api.VaTrain) { t.Apart = nil }},
	}
}

func TestP6_1Check(t *testing.T) {
	for _, c := range slices.Concat(badTrains(), goodTrains()) {
		if part, at, e := van.Check(c.train()); part != c.part || at != c.at || e != c.e {
			t.Errorf("%s: Check = %d, %d, %d, not %d, %d, %d", c.name, part, at, e, c.part, c.at, c.e)
		}
	}
}

func TestErrorOfTheTrainComesFirst(t *testing.T) {
	for _, c := range badTrains() {
		train, wrong := c.train(), []int{9}
		crates, e1 := van.Twice(train, wrong, -1)
		times, e2 := van.Times(train, wrong, 9)
		arrives, e3 := van.Arrives(train, wrong, -1)
		told, e4 := van.Told(train, wrong, 9, -1, -1)
		best, sure, twice, e5 := van.Best(train)
		never, e6 := van.Never(train)
		loose, e7 := van.Loose(train)
		earlier, e8 := van.Earlier(train)
		for i, e := range []api.Errno{e1, e2, e3, e4, e5, e6, e7, e8} {
			if e != c.e {
				t.Errorf("%s: function %d returns %d, not %d", c.name, i, e, c.e)
			}
		}
		numbers := []int{arrives, sure, twice, earlier}
		if len(crates)+len(times)+len(told)+len(best)+len(never)+len(loose) > 0 || slices.ContainsFunc(numbers, func(n int) bool { return n != 0 }) {
			t.Errorf("%s: a result beside the error", c.name)
		}
	}
}

// checkPlanError checks the error of the functions that take a plan, and that nothing else is told.
func checkPlanError(t *testing.T, name string, train api.VaTrain, plan []int, index int, want api.Errno) {
	t.Helper()
	twice, e1 := van.Twice(train, plan, index)
	times, e2 := van.Times(train, plan, index)
	arrives, e3 := van.Arrives(train, plan, index)
	told, e4 := van.Told(train, plan, index, index, -1)
	for i, e := range []api.Errno{e1, e2, e3, e4} {
		if e != want {
			t.Errorf("%s: with the plan %v and %d function %d returns %d, not %d", name, plan, index, i, e, want)
		}
	}
	if len(twice)+len(times)+len(told)+arrives > 0 {
		t.Errorf("%s: with the plan %v and %d a result beside the error", name, plan, index)
	}
}

func TestErrorOfThePlan(t *testing.T) {
	three := changed(exampleU(), func(t *api.VaTrain) { t.Vans = append(t.Vans, aVan("green", 20, 0, 0, 0, 0, 0)) })
	for _, c := range []struct {
		name string
		t    api.VaTrain
		plan []int
		want api.Errno
	}{
		{"too short", exampleU(), []int{0, 0, 1}, api.ErrLong},
		{"none", exampleU(), nil, api.ErrLong},
		{"too long", exampleU(), []int{0, 0, 1, 0, none}, api.ErrLong},
		{"too long, and wrong", exampleU(), []int{9, 0, 0, 0, 0}, api.ErrLong},
		{"too long for no crates", long(0), []int{0}, api.ErrLong},
		{"no van", exampleU(), []int{0, 0, 2, 0}, api.ErrNone},
		{"a van that is not there", exampleV(), []int{0, 0, 1, 0}, api.ErrNone},
		{"below VaNone", exampleU(), []int{0, 0, 1, -2}, api.ErrNone},
		{"the least number", exampleU(), []int{math.MinInt, 0, 1, 0}, api.ErrNone},
		{"the greatest number", exampleU(), []int{0, math.MaxInt, 1, 0}, api.ErrNone},
		{"no van behind crates that are too large", exampleU(), []int{1, 1, 1, 2}, api.ErrNone},
		{"no van behind a pair", exampleU(), []int{0, none, 0, -2}, api.ErrNone},
		{"too large for red", exampleU(), []int{none, 0, 0, 0}, api.ErrDown},
		{"too large for blue", exampleU(), []int{none, none, 1, 1}, api.ErrDown},
		{"too large for a van without room", changed(exampleU(), func(t *api.VaTrain) { t.Vans[0].Room = 0 }), []int{none, 0, none, none}, api.ErrDown},
		{"a pair in red", exampleU(), []int{0, none, 0, none}, api.ErrDown},
		{"a pair in green", three, []int{2, none, 2, none}, api.ErrDown},
		{"a pair beside others", three, []int{2, 0, 2, 1}, api.ErrDown},
		{"the last pair", example(aPair(heads, wax), aPair(heads, wigs), aPair(wigs, glass)), []int{1, 0, none, 0}, api.ErrDown},
	} {
		for _, index := range []int{0, 9, -1} {
			checkPlanError(t, c.name, c.t, c.plan, index, c.want)
		}
	}
	for _, c := range []struct {
		name string
		t    api.VaTrain
		plan []int
	}{
		{"the example", exampleU(), exampleP()},
		{"all stay behind", exampleU(), behind(4)},
		{"a pair stays behind", exampleU(), []int{none, 0, none, 1}},
		{"a pair in two vans", exampleU(), []int{1, none, 0, none}},
		{"half a pair stays behind", exampleU(), []int{0, 0, none, 0}},
		{"as large as the vans", example(), []int{0, 1, 0, none}},
		{"no crates", long(0), nil},
	} {
		if _, e := van.Twice(c.t, c.plan, 0); e != api.OK {
			t.Errorf("%s: Twice: %d", c.name, e)
		}
		for _, index := range append(outside(0, 3), 4) {
			checkPlanError(t, c.name, c.t, c.plan, index, api.ErrNone)
		}
	}
}

func TestP6_2NoVan(t *testing.T) {
	for _, index := range outside(0, 1) {
		twice, e := van.Twice(exampleU(), exampleP(), index)
		times, f := van.Times(exampleU(), exampleP(), index)
		if len(twice)+len(times) > 0 || e != api.ErrNone || f != api.ErrNone {
			t.Errorf("%d: Twice = %v, %d; Times = %v, %d", index, twice, e, times, f)
		}
	}
}

func TestP6_2TwiceAndTimes(t *testing.T) {
	two := changed(long(4, 0, 2, 1, 0, 2, 1), func(t *api.VaTrain) { t.Vans = append(t.Vans, aVan("w", 20, 3000, 0, 0, 0, 0, 0, 0)) })
	greatest := changed(long(60, 0, 1, 2, 2, 2, 2), func(t *api.VaTrain) { t.Vans[0] = aVan("v", 20, 5000, 600, 600, 0, 600, 600, 600) })
	for i, c := range []struct {
		t     api.VaTrain
		plan  []int
		van   int
		twice []int
		times []api.Span
	}{
		{exampleU(), exampleP(), red, []int{2, 0}, spans(160, 180, 210, 250)},
		{exampleU(), exampleP(), blue, []int{0, 0}, spans(210, 220, 240, 260)},
		{exampleU(), []int{none, red, blue, red}, red, []int{0, 0}, spans(160, 180, 190, 230)},
		{exampleU(), []int{none, red, red, none}, red, []int{0, 0}, spans(160, 180, 190, 230)},   // nearer to the door is what is unloaded
		{exampleU(), []int{none, none, red, red}, red, []int{1, 0}, spans(160, 180, 200, 240)},   // two crates, one behind the other
		{exampleU(), []int{red, none, none, red}, red, []int{1, 0}, spans(160, 180, 200, 240)},   // others between them stay behind
		{exampleU(), []int{red, blue, none, blue}, red, []int{0, 0}, spans(160, 180, 190, 230)},  // or are in the other van
		{exampleU(), []int{red, blue, none, blue}, blue, []int{0, 0}, spans(210, 220, 240, 260)}, // in this one nothing is unloaded at 0
		{exampleU(), behind(4), blue, []int{0, 0}, spans(210, 220, 240, 260)},
		{lone(), all(4), red, []int{2, 0}, spans(160, 180, 210, 250)},
		{long(5), nil, 0, []int{0, 0, 0}, spans(10, 10, 20, 22, 29, 32)},
		{long(5, 2, 1, 0), all(3), 0, []int{0, 0, 0}, spans(10, 10, 20, 22, 29, 32)},
		{long(5, 0, 1, 2), all(3), 0, []int{2, 1, 0}, spans(10, 10, 30, 32, 44, 47)},
		{long(5, 1, 0, 2), all(3), 0, []int{1, 1, 0}, spans(10, 10, 25, 27, 39, 42)},
		{long(5, 1, 2, 0), all(3), 0, []int{0, 1, 0}, spans(10, 10, 20, 22, 34, 37)},
		{long(5, 0, 2, 1), all(3), 0, []int{2, 0, 0}, spans(10, 10, 30, 32, 39, 42)},
		{long(5, 2, 0, 1), all(3), 0, []int{1, 0, 0}, spans(10, 10, 25, 27, 34, 37)},
		{long(5, 0, 0, 2), all(3), 0, []int{1, 0, 0}, spans(10, 10, 25, 27, 34, 37)},    // once, behind two crates
		{long(5, 0, 2, 0, 2), all(4), 0, []int{2, 0, 0}, spans(10, 10, 30, 32, 39, 42)}, // of one stop
		{long(5, 1, 1, 1), all(3), 0, []int{0, 0, 0}, spans(10, 10, 20, 22, 29, 32)},    // what is unloaded itself is not
		{long(0, 0, 1, 2), all(3), 0, []int{2, 1, 0}, spans(10, 10, 20, 22, 29, 32)},    // in no time
		{long(5, 0, 1, 2), []int{none, 0, 0}, 0, []int{0, 1, 0}, spans(10, 10, 20, 22, 34, 37)},
		{long(5, 0, 1, 2), []int{0, none, 0}, 0, []int{1, 0, 0}, spans(10, 10, 25, 27, 34, 37)},
		{two, []int{0, 0, 1, 1, 1, 0}, 0, []int{2, 0, 0}, spans(10, 10, 28, 30, 37, 40)},
		{two, []int{0, 0, 1, 1, 1, 0}, 1, []int{1, 1, 0}, spans(3000, 3000, 3004, 3004, 3008, 3008)},
		{greatest, all(6), 0, []int{5, 4, 0}, spans(5600, 5600, 5900, 6500, 6740, 7340)},
	} {
		twice, e := van.Twice(c.t, c.plan, c.van)
		times, f := van.Times(c.t, c.plan, c.van)
		if !slices.Equal(twice, c.twice) || e != api.OK || !slices.Equal(times, c.times) || f != api.OK {
			t.Errorf("%d: Twice = %v, %d; Times = %v, %d, not %v, %v", i, twice, e, times, f, c.twice, c.times)
		}
	}
}

func TestP6_3Arrives(t *testing.T) {
	by := func(minute int) api.VaTrain {
		return changed(exampleU(), func(t *api.VaTrain) { t.Crates[glass].By = minute })
	}
	for i, c := range []struct {
		t     api.VaTrain
		plan  []int
		crate int
		want  int
		e     api.Errno
	}{
		{exampleU(), exampleP(), heads, api.VaSure, api.OK},
		{exampleU(), exampleP(), wigs, api.VaSure, api.OK},
		{exampleU(), exampleP(), wax, api.VaSure, api.OK},
		{exampleU(), exampleP(), glass, api.VaMay, api.OK},
		{exampleU(), []int{none, red, blue, red}, heads, api.VaNever, api.OK},
		{exampleU(), []int{none, red, blue, red}, glass, api.VaSure, api.OK},
		{exampleU(), []int{blue, none, none, none}, heads, api.VaNever, api.OK},
		{exampleU(), []int{none, blue, none, none}, wigs, api.VaMay, api.OK},
		{exampleU(), []int{none, none, none, blue}, glass, api.VaMay, api.OK},
		{by(251), exampleP(), glass, api.VaSure, api.OK},
		{by(250), exampleP(), glass, api.VaSure, api.OK},
		{by(249), exampleP(), glass, api.VaMay, api.OK},
		{by(211), exampleP(), glass, api.VaMay, api.OK},
		{by(210), exampleP(), glass, api.VaMay, api.OK},
		{by(209), exampleP(), glass, api.VaNever, api.OK},
		{by(0), exampleP(), glass, api.VaNever, api.OK},
		{by(5000), []int{red, red, blue, none}, glass, api.VaNever, api.OK},
		{exampleU(), exampleP(), 4, 0, api.ErrNone},
		{exampleU(), exampleP(), -1, 0, api.ErrNone},
		{exampleU(), exampleP(), math.MaxInt, 0, api.ErrNone},
		{exampleU(), exampleP(), math.MinInt, 0, api.ErrNone},
		{long(0), nil, 0, 0, api.ErrNone},
	} {
		if got, e := van.Arrives(c.t, c.plan, c.crate); got != c.want || e != c.e {
			t.Errorf("%d: Arrives = %d, %d, not %d, %d", i, got, e, c.want, c.e)
		}
	}
}

func TestP6_4Told(t *testing.T) {
	stiff := changed(long(5, 0, 1, 2), func(t *api.VaTrain) { t.Vans[0] = aVan("v", 20, 100, 10, 20, 7, 7, 10, 30) })
	wide := changed(long(0), func(t *api.VaTrain) { t.Vans[0] = aVan("v", 20, 0, 0, 10, 0, 10, 0, 10) })
	for i, c := range []struct {
		t                 api.VaTrain
		plan              []int
		van, stop, minute int
		want              []api.Span
	}{
		{exampleU(), exampleP(), red, 0, 170, spans(170, 170, 220, 240)},
		{exampleU(), exampleP(), red, 0, 160, spans(160, 160, 210, 230)},
		{exampleU(), exampleP(), red, 0, 180, spans(180, 180, 230, 250)},
		{exampleU(), exampleP(), red, 1, 222, spans(160, 172, 222, 222)},
		{exampleU(), exampleP(), red, 1, 210, spans(160, 160, 210, 210)},
		{exampleU(), exampleP(), red, 1, 230, spans(160, 180, 230, 230)},
		{exampleU(), exampleP(), red, 1, 231, spans(161, 180, 231, 231)},
		{exampleU(), exampleP(), red, 1, 250, spans(180, 180, 250, 250)},
		{exampleU(), exampleP(), blue, 0, 213, spans(213, 213, 243, 253)},
		{exampleU(), exampleP(), blue, 1, 259, spans(219, 220, 259, 259)},
		{exampleU(), behind(4), red, 1, 222, spans(172, 180, 222, 222)},
		{stiff, all(3), 0, 0, 113, spans(113, 113, 130, 130, 145, 165)},
		{stiff, all(3), 0, 1, 130, spans(113, 113, 130, 130, 145, 165)},
		{stiff, all(3), 0, 2, 142, spans(110, 110, 127, 127, 142, 142)},
		{stiff, all(3), 0, 2, 150, spans(110, 118, 127, 135, 150, 150)},
		{stiff, all(3), 0, 2, 165, spans(113, 120, 130, 137, 165, 165)},
		{stiff, all(3), 0, 2, 172, spans(120, 120, 137, 137, 172, 172)},
		{wide, nil, 0, 2, 0, spans(0, 0, 0, 0, 0, 0)},
		{wide, nil, 0, 2, 4, spans(0, 4, 0, 4, 4, 4)},
		{wide, nil, 0, 2, 15, spans(0, 10, 5, 15, 15, 15)},
		{wide, nil, 0, 2, 24, spans(4, 10, 14, 20, 24, 24)},
		{wide, nil, 0, 1, 13, spans(3, 10, 13, 13, 13, 23)},
		{wide, nil, 0, 0, 7, spans(7, 7, 7, 17, 7, 27)},
	} {
		if got, e := van.Told(c.t, c.plan, c.van, c.stop, c.minute); !slices.Equal(got, c.want) || e != api.OK {
			t.Errorf("%d: Told = %v, %d, not %v", i, got, e, c.want)
		}
	}
}

func TestP6_4ToldErrors(t *testing.T) {
	for i, c := range []struct {
		van, stop, minute int
		want              api.Errno
	}{
		{2, 0, 170, api.ErrNone},
		{-1, 0, 170, api.ErrNone},
		{math.MinInt, 0, 170, api.ErrNone},
		{math.MaxInt, 0, 170, api.ErrNone},
		{0, 2, 222, api.ErrNone},
		{0, -1, 222, api.ErrNone},
		{0, math.MinInt, 222, api.ErrNone},
		{0, math.MaxInt, 222, api.ErrNone},
		{2, 0, -1, api.ErrNone},
		{0, 2, -1, api.ErrNone},
		{red, 0, 159, api.ErrZero},
		{red, 0, 181, api.ErrZero},
		{red, 1, 209, api.ErrZero},
		{red, 1, 251, api.ErrZero},
		{red, 1, 170, api.ErrZero},
		{blue, 0, 170, api.ErrZero},
		{red, 0, math.MinInt, api.ErrZero},
		{red, 0, math.MaxInt, api.ErrZero},
		{red, 1, math.MinInt, api.ErrZero},
		{red, 1, math.MaxInt, api.ErrZero},
	} {
		if got, e := van.Told(exampleU(), exampleP(), c.van, c.stop, c.minute); len(got) > 0 || e != c.want {
			t.Errorf("%d: Told = %v, %d, not %d", i, got, e, c.want)
		}
	}
}

// early is U with heads that have to be there at 100.
func early() api.VaTrain {
	return changed(exampleU(), func(t *api.VaTrain) { t.Crates[heads].By = 100 })
}

// narrow is a train with two vans that have room for one crate each, and such crates.
func narrow(crates ...api.VaCrate) api.VaTrain {
	return api.VaTrain{Vans: []api.VaVan{aVan("v", 1, 0, 10, 20), aVan("w", 1, 5, 10, 10)}, Stops: 1, Crates: crates}
}

// answers are a train, and what is told of all its plans.
type answers struct {
	name        string
	t           api.VaTrain
	best        []int
	sure, twice int
	never       []int
	loose       []int // nil, if notLoose is not OK
	notLoose    api.Errno
	earlier     int
	notEarlier  api.Errno
}

func tellings() []answers {
	const ok, down = api.OK, api.ErrDown
	twins := changed(long(3, 0, 1, 2), func(t *api.VaTrain) {
		t.Vans = append(t.Vans, aVan("w", 20, 0, 10, 10, 10, 12, 9, 10))
		t.Apart = []api.VaPair{aPair(0, 1), aPair(0, 2), aPair(1, 2)}
	})
	slow := changed(twins, func(t *api.VaTrain) { t.Vans[1].Leave, t.Crates[0].By, t.Crates[2].By = 30, 10, 40 })
	late := changed(long(3, 0, 1), func(t *api.VaTrain) { t.Crates[1].By = 24 })
	hopeless := func(more int) api.VaTrain {
		return changed(late, func(t *api.VaTrain) { t.Vans[0].Leave, t.Crates[0].By, t.Crates[1].By = 290+more, 0, 5000 })
	}
	return []answers{
		{"U", exampleU(), []int{none, red, blue, red}, 3, 0, nil, nil, down, 10, ok},
		{"U without a pair", example(), []int{none, red, blue, red}, 3, 0, nil, nil, down, 10, ok},
		{"V", exampleV(), []int{none, red, red, red}, 3, 1, nil, []int{0}, ok, 0, down},
		{"V without a pair", lone(), all(4), 4, 2, nil, nil, ok, 0, ok},
		{"V, the pair twice", lone(aPair(heads, wax), aPair(heads, wax)), []int{none, red, red, red}, 3, 1, nil, []int{0, 1}, ok, 0, down},
		{"V, three pairs", lone(aPair(heads, wax), aPair(wigs, glass), aPair(heads, glass)), []int{none, red, red, none}, 2, 0, nil, []int{0, 1, 2}, ok, 0, down},
		{"no crates", long(3), nil, 0, 0, nil, nil, ok, 0, ok},
		{"heads never are there", early(), []int{none, red, blue, red}, 3, 0, []int{heads}, nil, down, 80, ok},
		{"two vans for three crates", twins, []int{0, 1, none}, 2, 0, nil, []int{0}, ok, 0, down},
		{"two of three by one van", slow, []int{0, 1, none}, 2, 0, nil, []int{1}, ok, 0, down},
		{"two vans, no pairs", changed(twins, func(t *api.VaTrain) { t.Apart = nil }), []int{0, 0, 1}, 3, 1, nil, nil, ok, 0, ok},
		{"one makes the other one late", late, []int{0, none}, 1, 0, nil, nil, down, 1, ok},
		{"no van has room", narrow(aCrate("a", 2, 0, 99), aCrate("b", 9, 0, 99)), behind(2), 0, 0, []int{0, 1}, nil, down, 0, down},
		{"no van has room for b", narrow(aCrate("a", 1, 0, 99), aCrate("b", 2, 0, 99)), []int{0, none}, 1, 0, []int{1}, nil, down, 0, down},
		{"too late by all vans", narrow(aCrate("a", 1, 0, 3), aCrate("b", 1, 0, 14)), []int{0, 1}, 0, 0, []int{0, 1}, nil, down, 12, ok},
		{"a by w alone", narrow(aCrate("a", 1, 0, 15), aCrate("b", 1, 0, 20)), []int{1, 0}, 2, 0, nil, nil, ok, 0, ok},
		{"both by w alone", narrow(aCrate("a", 1, 0, 15), aCrate("b", 1, 0, 15)), []int{0, 1}, 1, 0, nil, nil, down, 5, ok},
		{"300 minutes", hopeless(0), []int{none, 0}, 1, 0, []int{0}, nil, down, 300, ok},
		{"301 minutes", hopeless(1), []int{none, 0}, 1, 0, []int{0}, nil, down, 0, down},
	}
}

func TestP6_5Best(t *testing.T) {
	for _, c := range tellings() {
		best, sure, twice, e := van.Best(c.t)
		if !slices.Equal(best, c.best) || sure != c.sure || twice != c.twice || e != api.OK {
			t.Errorf("%s: Best = %v, %d, %d, %d, not %v, %d, %d", c.name, best, sure, twice, e, c.best, c.sure, c.twice)
		}
	}
}

func TestP6_6Never(t *testing.T) {
	for _, c := range tellings() {
		if never, e := van.Never(c.t); !slices.Equal(never, c.never) || e != api.OK {
			t.Errorf("%s: Never = %v, %d, not %v", c.name, never, e, c.never)
		}
	}
}

func TestP6_7Loose(t *testing.T) {
	for _, c := range tellings() {
		if loose, e := van.Loose(c.t); !slices.Equal(loose, c.loose) || e != c.notLoose {
			t.Errorf("%s: Loose = %v, %d, not %v, %d", c.name, loose, e, c.loose, c.notLoose)
		}
	}
}

func TestP6_8Earlier(t *testing.T) {
	for _, c := range tellings() {
		if earlier, e := van.Earlier(c.t); earlier != c.earlier || e != c.notEarlier {
			t.Errorf("%s: Earlier = %d, %d, not %d, %d", c.name, earlier, e, c.earlier, c.notEarlier)
		}
	}
}

// callAll calls every function, and returns all results as a text.
func callAll(t api.VaTrain, plan []int, vehicle, crate, stop, minute int) string {
	var out []any
	call := func(results ...any) { out = append(out, results...) }
	call(van.Check(t))
	call(van.Twice(t, plan, vehicle))
	call(van.Times(t, plan, vehicle))
	call(van.Arrives(t, plan, crate))
	call(van.Told(t, plan, vehicle, stop, minute))
	call(van.Best(t))
	call(van.Never(t))
	call(van.Loose(t))
	call(van.Earlier(t))
	return fmt.Sprint(out...)
}

func TestP6_17AnyArguments(t *testing.T) {
	odd := []int{math.MinInt, -101, -2, -1, 0, 1, 2, 3, 4, 6, 60, 63, 64, 170, 601, 5001, math.MaxInt}
	trains := []api.VaTrain{{}, {Stops: 1, Vans: make([]api.VaVan, 1000), Crates: make([]api.VaCrate, 1000), Apart: make([]api.VaPair, 1000)}, exampleU(), exampleV(), full()}
	for _, n := range odd {
		many := max(0, min(n, 1001))
		for _, do := range []func(t *api.VaTrain){
			func(t *api.VaTrain) { t.Stops = n },
			func(t *api.VaTrain) { t.Handle = n },
			func(t *api.VaTrain) { t.Vans = make([]api.VaVan, many) },
			func(t *api.VaTrain) { t.Vans[1].Name = strings.Repeat("a", many) },
			func(t *api.VaTrain) { t.Vans[1].Room = n },
			func(t *api.VaTrain) { t.Vans[0].Leave = n },
			func(t *api.VaTrain) { t.Vans[0].Legs = make([]api.Span, many) },
			func(t *api.VaTrain) { t.Vans[0].Legs[1] = span(n, n) },
			func(t *api.VaTrain) { t.Crates = make([]api.VaCrate, many) },
			func(t *api.VaTrain) { t.Crates[2] = aCrate("wax", n, n, n) },
			func(t *api.VaTrain) { t.Crates[2].By = n },
			func(t *api.VaTrain) { t.Apart = make([]api.VaPair, many) },
			func(t *api.VaTrain) { t.Apart[0] = aPair(0, n) },
			func(t *api.VaTrain) { t.Apart[0] = aPair(n, 3) },
		} {
			trains = append(trains, change{do: do}.train())
		}
	}
	for _, train := range trains {
		before := fmt.Sprint(train)
		for _, n := range odd {
			plan := []int{n, none, n, none}
			first := callAll(train, plan, n, n, n, n)
			if again := callAll(train, plan, n, n, n, n); again != first {
				t.Fatalf("%v, %d: %s, and then %s", train, n, first, again)
			}
			if !slices.Equal(plan, []int{n, none, n, none}) {
				t.Fatalf("%v was modified", plan)
			}
			callAll(train, exampleP(), 0, n, 0, n)
			callAll(train, exampleP(), n, 0, 1, n)
			callAll(train, exampleP(), 0, 0, n, 170)
			callAll(train, make([]int, max(0, min(n, 1001))), 0, 0, 0, 170)
		}
		if fmt.Sprint(train) != before {
			t.Errorf("%s was modified: %v", before, train)
		}
	}
}

func TestP6_17NewMemory(t *testing.T) {
	train, plan := exampleV(), []int{red, red, none, red}
	train.Crates[glass].By = 0
	before := fmt.Sprint(train, plan)
	text := callAll(train, plan, red, glass, 0, 170)
	twice, _ := van.Twice(train, plan, red)
	times, _ := van.Times(train, plan, red)
	told, _ := van.Told(train, plan, red, 0, 170)
	best, _, _, _ := van.Best(train)
	never, _ := van.Never(train)
	loose, _ := van.Loose(exampleV())
	twice[0], times[0], told[0], best[1], never[0], loose[0] = 9, span(9, 9), span(9, 9), 9, 9, 9
	_ = append(best[:1], 9)
	if fmt.Sprint(train, plan) != before || callAll(train, plan, red, glass, 0, 170) != text {
		t.Error("a result shares memory with an argument, or is kept")
	}
}

func TestP6_17NilAndEmpty(t *testing.T) {
	empty := changed(long(3), func(t *api.VaTrain) { t.Crates, t.Apart = []api.VaCrate{}, []api.VaPair{} })
	if a, b := callAll(long(3), nil, 0, 0, 0, 10), callAll(empty, []int{}, 0, 0, 0, 10); a != b {
		t.Errorf("%s, and %s", a, b)
	}
	for _, vans := range [][]api.VaVan{{}, {{Name: "v", Legs: []api.Span{}}}} {
		none := api.VaTrain{Stops: 1, Vans: vans}
		if _, _, e := van.Check(none); e != api.ErrLong {
			t.Errorf("%v: Check: %d", vans, e)
		}
	}
}

// full is a train with as many plans as can be.
func full() api.VaTrain {
	t := api.VaTrain{Stops: 3, Handle: 60, Apart: []api.VaPair{aPair(0, 1), aPair(2, 3), aPair(4, 5), aPair(0, 5)}}
	for i := range 3 {
		t.Vans = append(t.Vans, aVan(string(rune('a'+i)), 20, 0, 0, 60, 0, 60, 0, 60))
	}
	for i := range 6 {
		t.Crates = append(t.Crates, aCrate(string(rune('a'+i)), 1, i%3, 60))
	}
	return t
}

func BenchmarkBest(b *testing.B) {
	t := full()
	for b.Loop() {
		van.Best(t)
	}
}

func BenchmarkLoose(b *testing.B) {
	t := full()
	for i := range t.Crates {
		t.Crates[i].By = 5000
	}
	for b.Loop() {
		van.Loose(t)
	}
}
