package dress_test

import (
	"fmt"
	"math"
	"slices"
	"strings"
	"testing"

	"ceroplast/api"
	"ceroplast/dress"
)

const whatever = api.DrAny

// named is a figure, or a person, with so many ounces of hair, and these looks.
func named(name string, ounces int, looks ...int) api.DrLook {
	return api.DrLook{Name: name, Looks: looks, Hair: ounces}
}

// looks is a figure, or a person, without a name yet.
func looks(ounces int, looks ...int) api.DrLook { return named("", ounces, looks...) }

func list(all ...api.DrLook) []api.DrLook { return all }

// roomOf is a room with these figures, a, b and so on, and these persons, p, q and so on.
func roomOf(costs, ounces []int, figures, persons []api.DrLook) api.DrRoom {
	r := api.DrRoom{Costs: costs, Ounces: ounces}
	for i, f := range figures {
		r.Figures = append(r.Figures, named(string(rune('a'+i)), f.Hair, f.Looks...))
	}
	for i, p := range persons {
		r.Persons = append(r.Persons, named(string(rune('p'+i)), p.Hair, p.Looks...))
	}
	return r
}

// gowns is a room in which no hair is changed: figures and persons have these gowns, each change of one costs 7.
func gowns(figures, persons []int) api.DrRoom {
	var have, want []api.DrLook
	for _, gown := range figures {
		have = append(have, looks(0, 0, gown))
	}
	for _, gown := range persons {
		want = append(want, looks(0, whatever, gown))
	}
	return roomOf([]int{1, 7}, []int{0}, have, want)
}

// wigs is a room in which only hair is changed, each change for 3.
func wigs(ounces []int, figures, persons []api.DrLook) api.DrRoom {
	return roomOf([]int{3}, ounces, figures, persons)
}

// exampleR is R of the chapter's examples.
func exampleR() api.DrRoom {
	return api.DrRoom{
		Costs:   []int{4, 6, 10},
		Ounces:  []int{0, 2},
		Figures: list(named("ada", 3, 0, 1, 0), named("ben", 2, 1, 1, 2), named("cy", 4, 0, 0, 2)),
		Persons: list(named("king", 3, 1, whatever, 2), named("nun", 2, 0, 1, 1), named("judge", 2, 1, 0, 2)),
	}
}

// exampleP is P of the chapter's examples.
func exampleP() api.DrRoom { return changed(exampleR(), func(r *api.DrRoom) { r.Ounces[1] = 1 }) }

func clone(r api.DrRoom) api.DrRoom {
	r.Costs, r.Ounces = slices.Clone(r.Costs), slices.Clone(r.Ounces)
	r.Figures, r.Persons = slices.Clone(r.Figures), slices.Clone(r.Persons)
	for _, all := range [][]api.DrLook{r.Figures, r.Persons} {
		for i := range all {
			all[i].Looks = slices.Clone(all[i].Looks)
		}
	}
	return r
}

// changed is a room that something was done to.
func changed(r api.DrRoom, do func(r *api.DrRoom)) api.DrRoom {
	r = clone(r)
	do(&r)
	return r
}

// change is something that is done to R, and what Check says of it then.
type change struct {
	name     string
	do       func(r *api.DrRoom)
	part, at int
	e        api.Errno
}

func (c change) room() api.DrRoom { return changed(exampleR(), c.do) }

// outside are numbers that are not from lo to hi.
func outside(lo, hi int) []int { return []int{math.MinInt, lo - 1, hi + 1, math.MaxInt} }

func badNumbers() []change {
	changes := []change{
		{"no costs before all else", func(r *api.DrRoom) { *r = api.DrRoom{Figures: make([]api.DrLook, 7)} }, 1, 0, api.ErrLong},
		{"no costs", func(r *api.DrRoom) { r.Costs = []int{} }, 1, 0, api.ErrLong},
		{"5 costs", func(r *api.DrRoom) { r.Costs = make([]int, 5) }, 1, 0, api.ErrLong},
		{"too many costs before a wrong one", func(r *api.DrRoom) { r.Costs = []int{-1, 0, 0, 0, 0} }, 1, 0, api.ErrLong},
		{"the first wrong cost", func(r *api.DrRoom) { r.Costs = []int{0, 101, -1} }, 1, 1, api.ErrRange},
		{"a cost before ounces", func(r *api.DrRoom) { r.Costs[2], r.Ounces = 101, nil }, 1, 2, api.ErrRange},
		{"no ounces before figures", func(r *api.DrRoom) { r.Ounces, r.Figures = nil, make([]api.DrLook, 7) }, 2, 0, api.ErrLong},
		{"no ounces", func(r *api.DrRoom) { r.Ounces = []int{} }, 2, 0, api.ErrLong},
		{"5 colours", func(r *api.DrRoom) { r.Ounces = make([]int, 5) }, 2, 0, api.ErrLong},
		{"too many ounces before a wrong one", func(r *api.DrRoom) { r.Ounces = []int{51, 0, 0, 0, 0} }, 2, 0, api.ErrLong},
		{"the first wrong ounces", func(r *api.DrRoom) { r.Ounces = []int{0, 0, -1, 51} }, 2, 2, api.ErrRange},
		{"ounces before figures", func(r *api.DrRoom) { r.Ounces[0], r.Figures = 51, make([]api.DrLook, 7) }, 2, 0, api.ErrRange},
	}
	for _, n := range outside(0, 100) {
		for at := range 3 {
			changes = append(changes, change{fmt.Sprint("cost ", n), func(r *api.DrRoom) { r.Costs[at] = n }, 1, at, api.ErrRange})
		}
	}
	for _, n := range outside(0, 50) {
		for at := range 2 {
			changes = append(changes, change{fmt.Sprint("ounces ", n), func(r *api.DrRoom) { r.Ounces[at] = n }, 2, at, api.ErrRange})
		}
	}
	return changes
}

// badLooks are changes of figures, or of persons, whose looks are from least on.
func badLooks(part, least int, of func(r *api.DrRoom) *[]api.DrLook) []change {
	one := func(name string, at int, x api.DrLook, e api.Errno) change {
		return change{fmt.Sprint("part ", part, ": ", name), func(r *api.DrRoom) { (*of(r))[at] = x }, part, at, e}
	}
	changes := []change{
		one("a name", 1, named("Ben", 0, 0, 0, 0), api.ErrForm),
		one("no name", 0, named("", 0, 0, 0, 0), api.ErrForm),
		one("a long name", 2, named("abcdefghijklmnopq", 0, 0, 0, 0), api.ErrForm),
		one("a name before all else", 1, named("b b", -1), api.ErrForm),
		one("no looks", 1, named("b", 0), api.ErrLong),
		one("too few looks", 1, named("b", 0, 0, 0), api.ErrLong),
		one("too many looks", 1, named("b", 0, 0, 0, 0, 0), api.ErrLong),
		one("too few looks before all else but the name", 1, named("b", -1, 9), api.ErrLong),
		one("too many looks before all else but the name", 1, named("b", -1, 9, 9, 9, 9), api.ErrLong),
		one("a colour before looks and hair", 1, named("b", -1, 2, 9, 9), api.ErrNone),
		one("a look behind good ones", 1, named("b", 0, 1, 5, 6), api.ErrRange),
		one("hair alone", 1, named("b", 51, 1, 5, 5), api.ErrRange),
	}
	for _, n := range outside(least, 1) {
		for at := range 3 {
			changes = append(changes, one(fmt.Sprint("colour ", n), at, named("b", 0, n, 0, 0), api.ErrNone))
		}
	}
	for _, n := range outside(least, 5) {
		changes = append(changes, one(fmt.Sprint("eyes ", n), 0, named("b", 0, 0, n, 0), api.ErrRange), one(fmt.Sprint("gown ", n), 2, named("b", 0, 0, 0, n), api.ErrRange))
	}
	for _, n := range outside(0, 50) {
		changes = append(changes, one(fmt.Sprint("hair ", n), 1, named("b", n, 0, 0, 0), api.ErrRange))
	}
	return append(changes, badLists(part, of)...)
}

// badLists are changes of which it matters what comes before something.
func badLists(part int, of func(r *api.DrRoom) *[]api.DrLook) []change {
	many := []int{3: api.MaxDrFigures, 4: api.MaxDrPersons}[part]
	var changes []change
	for _, c := range []struct {
		name string
		at   int
		e    api.Errno
		list []api.DrLook
	}{
		{"two of one name", 1, api.ErrTwice, list(named("b", 0, 0, 0, 0), named("b", 0, 0, 0, 0))},
		{"two of one name before all else", 1, api.ErrTwice, list(named("b", 0, 0, 0, 0), named("b", -1))},
		{"the last and the first of one name", 2, api.ErrTwice, list(named("b", 0, 0, 0, 0), named("c", 0, 0, 0, 0), named("b", 0, 1, 1, 1))},
		{"the first one decides: ErrRange", 0, api.ErrRange, list(named("b", 51, 0, 0, 0), named("", 0, 0, 0, 0))},
		{"the first one decides: ErrNone", 0, api.ErrNone, list(named("b", 0, 2, 0, 0), named("b", 0, 0, 0, 0))},
		{"the first one decides: ErrLong", 1, api.ErrLong, list(named("b", 0, 0, 0, 0), named("c", 0, 0, 0), named("b", 0, 0, 0, 0))},
		{"too many before a wrong one", 0, api.ErrLong, make([]api.DrLook, many+1)},
		{"far too many", 0, api.ErrLong, make([]api.DrLook, 100)},
		{"one too many", 0, api.ErrLong, roomOf(nil, nil, slices.Repeat(list(looks(0, 0, 0, 0)), many+1), nil).Figures},
	} {
		changes = append(changes, change{fmt.Sprint("part ", part, ": ", c.name), func(r *api.DrRoom) { *of(r) = c.list }, part, c.at, c.e})
	}
	return changes
}

func figuresOf(r *api.DrRoom) *[]api.DrLook { return &r.Figures }

func personsOf(r *api.DrRoom) *[]api.DrLook { return &r.Persons }

func badRooms() []change {
	order := []change{
		{"too many figures before persons", func(r *api.DrRoom) { r.Figures, r.Persons = make([]api.DrLook, 7), make([]api.DrLook, 6) }, 3, 0, api.ErrLong},
		{"a figure before persons", func(r *api.DrRoom) { r.Figures[2].Hair, r.Persons = 51, make([]api.DrLook, 6) }, 3, 2, api.ErrRange},
		{"figures of two kinds of looks, if there are three", func(r *api.DrRoom) { r.Costs = r.Costs[:2] }, 3, 0, api.ErrLong},
		{"figures of a colour that is not there any more", func(r *api.DrRoom) { r.Ounces = r.Ounces[:1] }, 3, 1, api.ErrNone},
		{"persons of a colour that is not there any more", func(r *api.DrRoom) { r.Ounces, r.Figures = r.Ounces[:1], nil }, 4, 0, api.ErrNone},
		{"persons of two kinds of looks, if there are three", func(r *api.DrRoom) { r.Costs, r.Figures = r.Costs[:2], nil }, 4, 0, api.ErrLong},
	}
	return slices.Concat(badNumbers(), badLooks(3, 0, figuresOf), badLooks(4, whatever, personsOf), order)
}

func goodRooms() []change {
	return []change{
		{name: "R", do: func(r *api.DrRoom) {}},
		{name: "P", do: func(r *api.DrRoom) { *r = exampleP() }},
		{name: "one cost and one colour alone", do: func(r *api.DrRoom) { *r = api.DrRoom{Costs: []int{0}, Ounces: []int{0}} }},
		{name: "no figures", do: func(r *api.DrRoom) { r.Figures = nil }},
		{name: "no persons", do: func(r *api.DrRoom) { r.Persons = nil }},
		{name: "the greatest numbers", do: func(r *api.DrRoom) {
			most := looks(50, 3, 5, 5, 5)
			*r = roomOf([]int{100, 100, 100, 100}, []int{50, 50, 50, 50}, slices.Repeat(list(most), 6), slices.Repeat(list(most), 5))
			r.Figures[0].Name, r.Persons[4].Name = "abcdefghijklmnop", "z.9"
		}},
		{name: "the least numbers", do: func(r *api.DrRoom) {
			*r = roomOf([]int{0, 0}, []int{0}, list(looks(0, 0, 0)), list(looks(0, whatever, whatever)))
		}},
		{name: "a person with all looks", do: func(r *api.DrRoom) { r.Persons[1] = named("nun", 50, 0, 5, 5) }},
		{name: "a person with no looks", do: func(r *api.DrRoom) { r.Persons[1] = named("nun", 50, whatever, whatever, whatever) }},
		{name: "a person with the name of a figure", do: func(r *api.DrRoom) { r.Persons[1].Name = "ada" }},
		{name: "looks beyond the colours", do: func(r *api.DrRoom) { r.Figures[1] = named("ben", 0, 1, 5, 4) }},
		{name: "figures that look alike", do: func(r *api.DrRoom) { r.Figures[1].Looks = r.Figures[0].Looks }},
	}
}

func TestP9_1Check(t *testing.T) {
	for _, c := range slices.Concat(badRooms(), goodRooms()) {
		if part, at, e := dress.Check(c.room()); part != c.part || at != c.at || e != c.e {
			t.Errorf("%s: Check = %d, %d, %d, not %d, %d, %d", c.name, part, at, e, c.part, c.at, c.e)
		}
	}
}

// callAll calls every function, and returns all results as a text, and all errors of those that are not of Check.
func callAll(r api.DrRoom, figure, person int, plan []int) (string, []api.Errno) {
	var out []any
	call := func(results ...any) { out = append(out, results...) }
	call(dress.Check(r))
	checks := len(out)
	call(dress.Cost(r, figure, person))
	call(dress.Left(r, plan))
	call(dress.Pays(r, plan))
	call(dress.Best(r))
	call(dress.Who(r, person))
	call(dress.Price(r, person))
	call(dress.Out(r))
	call(dress.Buy(r))
	var errors []api.Errno
	for _, result := range out[checks:] {
		if e, isErrno := result.(api.Errno); isErrno {
			errors = append(errors, e)
		}
	}
	return fmt.Sprint(out...), errors
}

// nothing is the text of callAll, behind Check, if all functions return this error, and nothing else.
func nothing(e api.Errno) string {
	return fmt.Sprint(0, []int(nil), e, []int(nil), e, 0, e, []int(nil), 0, e, []int(nil), e, 0, e, []int(nil), e, []int(nil), 0, e)
}

func TestErrorOfTheRoomComesFirst(t *testing.T) {
	for _, c := range badRooms() {
		r := c.room()
		want := fmt.Sprint(c.part, c.at, c.e) + " " + nothing(c.e)
		for _, n := range []int{0, -1, 9} {
			for _, plan := range [][]int{nil, {0, 1, 2}, {9, 9, 9}, {0, 0, 0}} {
				if got, _ := callAll(r, n, n, plan); got != want {
					t.Fatalf("%s: %d, %v: %s, not %s", c.name, n, plan, got, want)
				}
			}
		}
	}
}

func TestNoSuchFigureOrPerson(t *testing.T) {
	for _, r := range []api.DrRoom{exampleR(), exampleP(), gowns([]int{1, 2, 3}, []int{1, 1, 1})} {
		for _, n := range outside(0, 2) {
			for _, c := range [][2]int{{n, 0}, {0, n}, {n, n}, {n, 2}, {2, n}} {
				if cost, kinds, e := dress.Cost(r, c[0], c[1]); cost != 0 || len(kinds) > 0 || e != api.ErrNone {
					t.Errorf("Cost of %v = %d, %v, %d", c, cost, kinds, e)
				}
			}
			if who, e := dress.Who(r, n); len(who) > 0 || e != api.ErrNone {
				t.Errorf("Who of %d = %v, %d", n, who, e)
			}
			if price, e := dress.Price(r, n); price != 0 || e != api.ErrNone {
				t.Errorf("Price of %d = %d, %d", n, price, e)
			}
		}
	}
	none := gowns(nil, nil)
	_, _, e1 := dress.Cost(none, 0, 0)
	_, e2 := dress.Who(none, 0)
	_, e3 := dress.Price(none, 0)
	_, _, e4 := dress.Cost(gowns(nil, []int{1}), 0, 0)
	_, _, e5 := dress.Cost(gowns([]int{1}, nil), 0, 0)
	for i, e := range []api.Errno{e1, e2, e3, e4, e5} {
		if e != api.ErrNone {
			t.Errorf("%d: without figures, or persons: %d", i, e)
		}
	}
}

func TestP9_2Cost(t *testing.T) {
	one := func(figure, person api.DrLook) api.DrRoom {
		return roomOf([]int{1, 10, 0, 100}, []int{0, 0, 0, 0}, list(figure), list(person))
	}
	for i, c := range []struct {
		r              api.DrRoom
		figure, person int
		cost           int
		kinds          []int
	}{
		{exampleR(), 0, 0, 14, []int{0, 2}},
		{exampleR(), 1, 0, 0, nil},
		{exampleR(), 2, 1, 16, []int{1, 2}},
		{exampleR(), 2, 0, 4, []int{0}},
		{exampleR(), 0, 1, 10, []int{2}},
		{exampleR(), 1, 1, 14, []int{0, 2}},
		{exampleR(), 0, 2, 20, []int{0, 1, 2}},
		{exampleR(), 1, 2, 6, []int{1}},
		{exampleR(), 2, 2, 4, []int{0}},
		{exampleP(), 0, 2, 20, []int{0, 1, 2}},
		// all kinds, and none
		{one(looks(0, 0, 0, 0, 0), looks(50, 3, 5, 5, 5)), 0, 0, 111, []int{0, 1, 2, 3}},
		{one(looks(0, 3, 5, 4, 1), looks(50, 3, 5, 4, 1)), 0, 0, 0, nil},
		{one(looks(0, 3, 5, 4, 1), looks(50, -1, -1, -1, -1)), 0, 0, 0, nil},
		// a kind that costs nothing is changed, too
		{one(looks(0, 0, 0, 0, 0), looks(0, 0, 0, 1, 0)), 0, 0, 0, []int{2}},
		{one(looks(0, 0, 0, 0, 0), looks(0, -1, 1, 1, -1)), 0, 0, 10, []int{1, 2}},
		{one(looks(0, 0, 0, 0, 0), looks(0, 1, -1, -1, 1)), 0, 0, 101, []int{0, 3}},
		{one(looks(0, 1, 1, 1, 1), looks(0, 0, 0, 0, 0)), 0, 0, 111, []int{0, 1, 2, 3}},
	} {
		if cost, kinds, e := dress.Cost(c.r, c.figure, c.person); cost != c.cost || !slices.Equal(kinds, c.kinds) || e != api.OK {
			t.Errorf("%d: Cost = %d, %v, %d", i, cost, kinds, e)
		}
	}
}

func TestErrorsOfPlans(t *testing.T) {
	for i, c := range []struct {
		plan []int
		e    api.Errno
	}{
		{nil, api.ErrLong},
		{[]int{0, 1}, api.ErrLong},
		{[]int{0, 1, 2, 0}, api.ErrLong},
		{[]int{0, 1, 2, 3}, api.ErrLong},
		{[]int{0, 0}, api.ErrLong},
		{[]int{9, 9}, api.ErrLong},
		{[]int{0, 1, 3}, api.ErrNone},
		{[]int{-1, 1, 2}, api.ErrNone},
		{[]int{0, math.MinInt, 2}, api.ErrNone},
		{[]int{0, 1, math.MaxInt}, api.ErrNone},
		{[]int{0, 0, 3}, api.ErrNone},
		{[]int{-1, -1, 2}, api.ErrNone},
		{[]int{0, 1, 0}, api.ErrTwice},
		{[]int{1, 1, 2}, api.ErrTwice},
		{[]int{0, 2, 2}, api.ErrTwice},
		{[]int{0, 0, 0}, api.ErrTwice},
	} {
		for _, r := range []api.DrRoom{exampleR(), exampleP()} {
			left, e1 := dress.Left(r, c.plan)
			pence, e2 := dress.Pays(r, c.plan)
			if len(left) > 0 || e1 != c.e || pence != 0 || e2 != c.e {
				t.Errorf("%d: Left = %v, %d; Pays = %d, %d", i, left, e1, pence, e2)
			}
		}
	}
	if _, e := dress.Left(gowns(nil, []int{1}), []int{0}); e != api.ErrNone {
		t.Errorf("Left without figures: %d", e)
	}
	if _, e := dress.Pays(gowns([]int{1}, nil), []int{0}); e != api.ErrLong {
		t.Errorf("Pays without persons: %d", e)
	}
}

func TestP9_3LeftPays(t *testing.T) {
	for i, c := range []struct {
		r     api.DrRoom
		plan  []int
		left  []int
		pence int
		e     api.Errno
	}{
		{exampleR(), []int{1, 0, 2}, []int{4, 0}, 14, api.OK},
		{exampleR(), []int{2, 0, 1}, []int{4, -1}, 0, api.ErrDown},
		{exampleP(), []int{1, 0, 2}, []int{4, -1}, 0, api.ErrDown},
		{exampleP(), []int{2, 0, 1}, []int{4, -2}, 0, api.ErrDown},
		{exampleR(), []int{0, 1, 2}, []int{5, -1}, 0, api.ErrDown},
		{exampleR(), []int{1, 2, 0}, []int{3, 0}, 36, api.OK},
		// nobody is changed
		{gowns(nil, nil), nil, []int{0}, 0, api.OK},
		{gowns([]int{1, 2}, nil), nil, []int{0}, 0, api.OK},
		{gowns([]int{1, 2, 3}, []int{3, 1}), []int{2, 0}, []int{0}, 0, api.OK},
		{gowns([]int{1, 2, 3}, []int{3, 1}), []int{0, 1}, []int{0}, 14, api.OK},
		{gowns([]int{1, 2, 3}, []int{3, -1}), []int{0, 1}, []int{0}, 7, api.OK},
		// hair that is not changed stays as it is, however much is there, or wanted
		{wigs([]int{0, 3}, list(looks(0, 0)), list(looks(50, 0))), []int{0}, []int{0, 3}, 0, api.OK},
		{wigs([]int{0, 3}, list(looks(50, 0)), list(looks(0, 0))), []int{0}, []int{0, 3}, 0, api.OK},
		{wigs([]int{0, 3}, list(looks(7, 0)), list(looks(50, -1))), []int{0}, []int{0, 3}, 0, api.OK},
		{roomOf([]int{3, 5}, []int{1, 3}, list(looks(7, 0, 0)), list(looks(50, 0, 1))), []int{0}, []int{1, 3}, 5, api.OK},
		// all of it is left, to the last ounce
		{wigs([]int{0, 3}, list(looks(0, 0)), list(looks(3, 1))), []int{0}, []int{0, 0}, 3, api.OK},
		{wigs([]int{0, 3}, list(looks(0, 0)), list(looks(4, 1))), []int{0}, []int{0, -1}, 0, api.ErrDown},
		{wigs([]int{5, 3}, list(looks(6, 0)), list(looks(2, 1))), []int{0}, []int{11, 1}, 3, api.OK},
		{wigs([]int{50, 0}, list(looks(50, 0)), list(looks(0, 1))), []int{0}, []int{100, 0}, 3, api.OK},
		{wigs([]int{3, 2, 1, 0}, list(looks(9, 3)), list(looks(1, 2))), []int{0}, []int{3, 2, 0, 9}, 3, api.OK},
		{wigs([]int{3, 2, 1, 0}, list(looks(9, 0)), list(looks(1, 3))), []int{0}, []int{12, 2, 1, -1}, 0, api.ErrDown},
		// ounces of one colour are none of another one
		{wigs([]int{50, 0, 50}, list(looks(0, 0)), list(looks(1, 1))), []int{0}, []int{50, -1, 50}, 0, api.ErrDown},
		// what is taken off one head is put on another one, whichever comes first
		{wigs([]int{0, 0}, list(looks(3, 0), looks(3, 1)), list(looks(3, 1), looks(3, 0))), []int{0, 1}, []int{0, 0}, 6, api.OK},
		{wigs([]int{0, 0}, list(looks(3, 0), looks(3, 1)), list(looks(3, 1), looks(3, 0))), []int{1, 0}, []int{0, 0}, 0, api.OK},
		{wigs([]int{0, 0}, list(looks(2, 0), looks(4, 1)), list(looks(3, 1), looks(3, 0))), []int{0, 1}, []int{-1, 1}, 0, api.ErrDown},
		{wigs([]int{0, 0, 0}, list(looks(2, 0), looks(3, 1), looks(4, 2)), list(looks(3, 1), looks(4, 2), looks(2, 0))), []int{0, 1, 2}, []int{0, 0, 0}, 9, api.OK},
		{wigs([]int{0, 0, 0}, list(looks(2, 0), looks(3, 1), looks(4, 2)), list(looks(2, 2), looks(4, 0), looks(3, 1))), []int{0, 1, 2}, []int{-2, 0, 2}, 0, api.ErrDown},
		// a figure that becomes nobody keeps its hair
		{wigs([]int{0, 0}, list(looks(0, 0), looks(9, 1)), list(looks(3, 1))), []int{0}, []int{0, -3}, 0, api.ErrDown},
		// far below 0
		{wigs([]int{0, 0}, slices.Repeat(list(looks(0, 0)), 6), slices.Repeat(list(looks(50, 1)), 5)), []int{5, 4, 3, 2, 0}, []int{0, -250}, 0, api.ErrDown},
		{wigs([]int{50, 50}, slices.Repeat(list(looks(50, 0)), 6), slices.Repeat(list(looks(10, 1)), 5)), []int{5, 4, 3, 2, 0}, []int{300, 0}, 15, api.OK},
		// all that there can be to pay
		{roomOf([]int{100, 100, 100, 100}, []int{0, 0}, slices.Repeat(list(looks(0, 0, 0, 0, 0)), 5), slices.Repeat(list(looks(0, 1, 1, 1, 1)), 5)), []int{4, 3, 2, 1, 0}, []int{0, 0}, 2000, api.OK},
	} {
		left, e := dress.Left(c.r, c.plan)
		if !slices.Equal(left, c.left) || e != api.OK {
			t.Errorf("%d: Left = %v, %d, not %v", i, left, e, c.left)
		}
		if pence, e := dress.Pays(c.r, c.plan); pence != c.pence || e != c.e {
			t.Errorf("%d: Pays = %d, %d", i, pence, e)
		}
	}
}

// released is a room in which the last person has hair taken off that the others need.
func released() api.DrRoom {
	return wigs([]int{0, 0}, list(looks(2, 0), looks(0, 1), looks(0, 1)), list(looks(1, 0), looks(1, 0), looks(0, 1)))
}

// exchange is a room in which two figures would exchange their hair, of so many ounces, if their gowns are not to be changed for 100 each.
func exchange(a, b int) api.DrRoom {
	return roomOf([]int{5, 100}, []int{0, 0}, list(looks(a, 0, 0), looks(b, 1, 1)), list(looks(3, 1, 0), looks(3, 0, 1)))
}

func TestP9_4Best(t *testing.T) {
	for i, c := range []struct {
		r    api.DrRoom
		plan []int
		cost int
		e    api.Errno
	}{
		{exampleR(), []int{1, 0, 2}, 14, api.OK},
		{exampleP(), nil, 0, api.ErrDown},
		{gowns(nil, nil), nil, 0, api.OK},
		{gowns([]int{1, 2}, nil), nil, 0, api.OK},
		// too few figures
		{gowns(nil, []int{1}), nil, 0, api.ErrDown},
		{gowns([]int{1, 2}, []int{-1, -1, -1}), nil, 0, api.ErrDown},
		{gowns([]int{1, 2, 3, 4}, []int{1, 2, 3, 4, 5}), nil, 0, api.ErrDown},
		// the first of several
		{gowns([]int{1, 1, 1}, []int{1, 1}), []int{0, 1}, 0, api.OK},
		{gowns([]int{1, 2, 2}, []int{2, 2}), []int{1, 2}, 0, api.OK},
		{gowns([]int{1, 2}, []int{3, 3}), []int{0, 1}, 14, api.OK},
		{gowns([]int{1, 2, 3}, []int{4, 3}), []int{0, 2}, 7, api.OK},
		{gowns([]int{3, 2, 1}, []int{4, 3}), []int{1, 0}, 7, api.OK},
		{gowns([]int{4, 4, 4, 4, 4, 4}, []int{-1, -1, -1, -1, -1}), []int{0, 1, 2, 3, 4}, 0, api.OK},
		// the nearest figure of each is another one's
		{gowns([]int{1, 2, 3}, []int{3, 1, 2}), []int{2, 0, 1}, 0, api.OK},
		{gowns([]int{1, 2, 3, 4, 5}, []int{5, 4, 3, 2, 1}), []int{4, 3, 2, 1, 0}, 0, api.OK},
		{roomOf([]int{1, 10}, []int{50, 50}, list(looks(0, 0, 0), looks(0, 0, 1)), list(looks(0, 1, 0), looks(0, 0, 0))), []int{0, 1}, 11, api.OK},
		{roomOf([]int{1, 10}, []int{50, 50}, list(looks(0, 0, 0), looks(0, 1, 1)), list(looks(0, 1, 0), looks(0, 0, 0))), []int{1, 0}, 10, api.OK},
		// what costs less is not allowed
		{exchange(3, 3), []int{0, 1}, 10, api.OK},
		{exchange(2, 3), []int{1, 0}, 200, api.OK},
		{exchange(3, 2), []int{1, 0}, 200, api.OK},
		{released(), []int{1, 2, 0}, 9, api.OK},
		// none is allowed
		{wigs([]int{0, 2}, list(looks(9, 0)), list(looks(3, 1))), nil, 0, api.ErrDown},
		{wigs([]int{0, 2}, list(looks(9, 0)), list(looks(2, 1))), []int{0}, 3, api.OK},
		{wigs([]int{0, 2}, list(looks(9, 0), looks(9, 0)), list(looks(1, 1), looks(2, 1))), nil, 0, api.ErrDown},
		{wigs([]int{0, 2}, list(looks(9, 0), looks(0, 1)), list(looks(1, 1), looks(2, 1))), []int{0, 1}, 3, api.OK},
		{wigs([]int{0, 2}, list(looks(9, 0), looks(0, 1)), list(looks(3, 1), looks(2, 1))), []int{1, 0}, 3, api.OK},
	} {
		if plan, cost, e := dress.Best(c.r); !slices.Equal(plan, c.plan) || cost != c.cost || e != c.e {
			t.Errorf("%d: Best = %v, %d, %d, not %v, %d, %d", i, plan, cost, e, c.plan, c.cost, c.e)
		}
		for person := range c.r.Persons {
			if who, e := dress.Who(c.r, person); e != c.e || len(who) > 0 != (e == api.OK) {
				t.Errorf("%d: Who of %d = %v, %d", i, person, who, e)
			}
		}
	}
}

func TestP9_4Who(t *testing.T) {
	for i, c := range []struct {
		r   api.DrRoom
		who [][]int // of each person
	}{
		{exampleR(), [][]int{{1}, {0}, {2}}},
		{gowns([]int{1, 1, 2}, []int{1, 3}), [][]int{{0, 1}, {0, 1, 2}}},
		{gowns([]int{1, 2}, []int{1, 1}), [][]int{{0, 1}, {0, 1}}},
		{gowns([]int{1, 2, 3}, []int{4, 3}), [][]int{{0, 1}, {2}}},
		{gowns([]int{1, 2, 3}, []int{3, 1, 2}), [][]int{{2}, {0}, {1}}},
		{gowns([]int{4, 4, 4, 4, 4, 4}, []int{-1, -1, -1, -1, -1}), slices.Repeat([][]int{{0, 1, 2, 3, 4, 5}}, 5)},
		{gowns([]int{4, 4, 4, 4, 4, 5}, []int{5, 4, -1, 4, 4}), [][]int{{5}, {0, 1, 2, 3, 4}, {0, 1, 2, 3, 4}, {0, 1, 2, 3, 4}, {0, 1, 2, 3, 4}}},
		// as cheap, but not allowed
		{wigs([]int{0, 2}, list(looks(0, 0), looks(2, 0), looks(0, 1)), list(looks(2, 1), looks(2, 1))), [][]int{{0, 1, 2}, {0, 1, 2}}},
		{wigs([]int{0, 2}, list(looks(0, 0), looks(2, 0)), list(looks(3, 1), looks(1, 0))), nil},
		{wigs([]int{0, 2}, list(looks(0, 0), looks(2, 1), looks(0, 1)), list(looks(2, 0), looks(4, 1))), [][]int{{0}, {1, 2}}},
		{wigs([]int{0, 2}, list(looks(0, 0), looks(2, 1), looks(0, 1)), list(looks(3, -1), looks(0, 0), looks(4, 1))), [][]int{{1, 2}, {0}, {1, 2}}},
		{wigs([]int{0, 2, 0}, list(looks(0, 0), looks(2, 2)), list(looks(0, 1), looks(2, 1))), [][]int{{0, 1}, {0, 1}}},
		{wigs([]int{0, 0, 0}, list(looks(2, 0), looks(3, 1)), list(looks(2, 2), looks(0, 2))), nil},
		{wigs([]int{0, 0, 0}, list(looks(2, 0), looks(3, 1)), list(looks(2, 1), looks(3, 0))), [][]int{{1}, {0}}},
		{wigs([]int{0, 2, 0}, list(looks(2, 0), looks(3, 0), looks(1, 0)), list(looks(2, 1), looks(5, 0), looks(0, 2))), [][]int{{0, 1, 2}, {0, 1, 2}, {0, 1, 2}}},
		{wigs([]int{0, 2, 0}, list(looks(2, 0), looks(3, 2), looks(1, 2)), list(looks(2, 1), looks(4, 0))), [][]int{{1, 2}, {0}}},
		{exchange(3, 3), [][]int{{0}, {1}}},
		{exchange(3, 2), [][]int{{1}, {0}}},
		{released(), [][]int{{1, 2}, {1, 2}, {0}}},
	} {
		for person, want := range c.who {
			if who, e := dress.Who(c.r, person); !slices.Equal(who, want) || e != api.OK {
				t.Errorf("%d: Who of %d = %v, %d", i, person, who, e)
			}
		}
		if c.who == nil {
			if who, e := dress.Who(c.r, 0); len(who) > 0 || e != api.ErrDown {
				t.Errorf("%d: Who = %v, %d", i, who, e)
			}
		}
	}
}

func TestP9_5Price(t *testing.T) {
	for i, c := range []struct {
		r             api.DrRoom
		person, price int
		e             api.Errno
	}{
		{exampleR(), 0, 0, api.OK},
		{exampleR(), 1, 10, api.OK},
		{exampleR(), 2, 4, api.OK},
		{exampleP(), 0, 0, api.ErrDown},
		{exampleP(), 2, 0, api.ErrDown},
		{gowns([]int{1}, []int{1}), 0, 0, api.OK},
		{gowns([]int{1}, []int{2}), 0, 7, api.OK},
		{gowns([]int{1, 2}, []int{1, 1}), 0, 7, api.OK},
		{gowns([]int{1, 2}, []int{1, 1}), 1, 7, api.OK},
		{gowns([]int{1, 2}, []int{1, -1}), 1, 0, api.OK},
		{gowns([]int{1, 2}, []int{-1, 2, -1}), 1, 0, api.ErrDown},
		{gowns([]int{1, 1, 2}, []int{1, 3}), 0, 0, api.OK},
		{gowns([]int{1, 1, 2}, []int{1, 3}), 1, 7, api.OK},
		// it gives hair to another one, who costs more without it
		{exchange(3, 3), 0, -90, api.OK},
		{exchange(3, 3), 1, -90, api.OK},
		{exchange(3, 2), 0, 100, api.OK},
		{exchange(3, 2), 1, 100, api.OK},
		// nobody else could be without it
		{released(), 2, 0, api.ErrDown},
		{released(), 0, 9, api.OK},
		{released(), 1, 9, api.OK},
	} {
		if price, e := dress.Price(c.r, c.person); price != c.price || e != c.e {
			t.Errorf("%d: Price = %d, %d, not %d, %d", i, price, e, c.price, c.e)
		}
	}
}

func TestP9_6Out(t *testing.T) {
	for i, c := range []struct {
		r    api.DrRoom
		want []int
	}{
		{exampleR(), nil},
		{exampleP(), []int{0}},
		{gowns(nil, nil), nil},
		{gowns([]int{1, 2}, nil), nil},
		// too few figures
		{gowns(nil, []int{1}), []int{0}},
		{gowns(nil, []int{1, 2, 3, 4, 5}), []int{0, 1, 2, 3, 4}},
		{gowns([]int{1, 2}, []int{1, 2, -1, -1}), []int{0, 1}},
		{gowns([]int{1, 2, 3, 4}, []int{1, 2, 3, 4, 5}), []int{0}},
		// too little hair: the first of those who want it
		{wigs([]int{0, 2}, list(looks(9, 0)), list(looks(3, 1))), []int{0}},
		{wigs([]int{0, 2}, list(looks(9, 0), looks(9, 0)), list(looks(0, 0), looks(3, 1))), []int{1}},
		{wigs([]int{0, 2}, list(looks(9, 0), looks(9, 0), looks(9, 0)), list(looks(0, 0), looks(2, 1), looks(1, 1))), []int{1}},
		{wigs([]int{0, 2}, list(looks(9, 0), looks(9, 0), looks(9, 0)), list(looks(1, 1), looks(0, 0), looks(2, 1))), []int{0}},
		{wigs([]int{0, 2}, list(looks(9, 0), looks(9, 0), looks(9, 0)), list(looks(1, 1), looks(1, 1), looks(3, 1))), []int{2}},
		{wigs([]int{0, 2}, slices.Repeat(list(looks(9, 0)), 6), slices.Repeat(list(looks(1, 1)), 5)), []int{0, 1, 2}},
		{wigs([]int{0, 2}, slices.Repeat(list(looks(9, 0)), 6), list(looks(3, 1), looks(1, 1), looks(3, 1), looks(1, 1), looks(3, 1))), []int{0, 2, 4}},
		{wigs([]int{0, 2}, slices.Repeat(list(looks(9, 0)), 6), list(looks(2, 1), looks(1, 1), looks(0, 1), looks(1, 1), looks(2, 1))), []int{0, 4}},
		// one of one colour, or one of another one
		{wigs([]int{0, 0, 0}, list(looks(0, 0), looks(0, 0)), list(looks(1, 1), looks(1, 2))), []int{0, 1}},
		{wigs([]int{0, 1, 1}, slices.Repeat(list(looks(0, 0)), 4), list(looks(1, 1), looks(1, 2), looks(1, 1), looks(1, 2))), []int{0, 1}},
		{wigs([]int{0, 1, 1}, slices.Repeat(list(looks(0, 0)), 4), list(looks(0, 0), looks(1, 2), looks(1, 1), looks(1, 1))), []int{2}},
		// who gives hair to others is not left out
		{released(), nil},
		{exchange(3, 2), nil},
		{wigs([]int{0, 0}, list(looks(2, 0), looks(0, 1), looks(0, 1)), list(looks(0, 1), looks(1, 0), looks(2, 0))), []int{1}},
		{wigs([]int{0, 0}, list(looks(2, 0), looks(0, 1), looks(0, 1)), list(looks(1, 1), looks(1, 0), looks(1, 0))), []int{1}},
	} {
		if got, e := dress.Out(c.r); !slices.Equal(got, c.want) || e != api.OK {
			t.Errorf("%d: Out = %v, %d, not %v", i, got, e, c.want)
		}
	}
}

// several is a room for which 9 ounces of the colour 0 can be bought, for one change of hair, or 9 of the colour 1, for three: the figure of the colour 0 then gives hair to two persons.
func several(cost int) api.DrRoom {
	figures := list(looks(18, 0), looks(0, 1), looks(0, 2), looks(0, 2))
	return roomOf([]int{cost}, []int{0, 0, 0}, figures, list(looks(9, 0), looks(9, 0), looks(9, 1)))
}

// backwards is a room whose figures are in the other order.
func backwards(r api.DrRoom) api.DrRoom {
	return changed(r, func(r *api.DrRoom) { slices.Reverse(r.Figures) })
}

func TestP9_7Buy(t *testing.T) {
	for i, c := range []struct {
		r      api.DrRoom
		ounces []int
		cost   int
		e      api.Errno
	}{
		{exampleR(), []int{0, 0}, 14, api.OK},
		{exampleP(), []int{0, 1}, 14, api.OK},
		{gowns(nil, nil), []int{0}, 0, api.OK},
		{gowns([]int{1, 2}, []int{3}), []int{0}, 7, api.OK},
		{roomOf([]int{3}, []int{0, 0, 0, 0}, nil, nil), []int{0, 0, 0, 0}, 0, api.OK},
		// more persons than figures
		{gowns(nil, []int{1}), nil, 0, api.ErrDown},
		{gowns([]int{1, 2, 3, 4}, []int{-1, -1, -1, -1, -1}), nil, 0, api.ErrDown},
		{wigs([]int{9, 9}, list(looks(9, 0)), list(looks(0, 0), looks(0, 0))), nil, 0, api.ErrDown},
		// what is there is not bought
		{wigs([]int{0, 2}, list(looks(9, 0)), list(looks(2, 1))), []int{0, 0}, 3, api.OK},
		{wigs([]int{0, 2}, list(looks(9, 0)), list(looks(7, 1))), []int{0, 5}, 3, api.OK},
		{wigs([]int{50, 0, 50}, list(looks(9, 0)), list(looks(50, 1))), []int{0, 50, 0}, 3, api.OK},
		{wigs([]int{0, 0}, slices.Repeat(list(looks(0, 0)), 6), slices.Repeat(list(looks(50, 1)), 5)), []int{0, 250}, 15, api.OK},
		// of several colours
		{wigs([]int{1, 2, 0, 3}, slices.Repeat(list(looks(0, 0)), 3), list(looks(4, 1), looks(5, 2), looks(6, 3))), []int{0, 2, 5, 3}, 9, api.OK},
		{wigs([]int{0, 0, 0}, list(looks(2, 0), looks(0, 0)), list(looks(4, 1), looks(5, 2))), []int{0, 4, 5}, 6, api.OK},
		// the fewest ounces, whatever it costs
		{exchange(2, 3), []int{0, 0}, 200, api.OK},
		{roomOf([]int{5, 100}, []int{0, 0}, list(looks(2, 0, 0), looks(0, 1, 1)), list(looks(3, 1, 0))), []int{0, 0}, 100, api.OK},
		{roomOf([]int{5, 100}, []int{0, 0, 0}, list(looks(0, 0, 1), looks(2, 1, 0)), list(looks(3, 0, 0), looks(4, 2, 0))), []int{0, 0, 4}, 105, api.OK},
		{wigs([]int{0, 0}, list(looks(1, 0), looks(0, 0), looks(0, 1)), list(looks(2, 1), looks(2, 1))), []int{0, 2}, 3, api.OK},
		// hair that is taken off a head is not bought, nor that of a figure that keeps it
		{exchange(3, 3), []int{0, 0}, 10, api.OK},
		{wigs([]int{0, 0, 0}, list(looks(2, 0), looks(4, 1)), list(looks(3, 1), looks(3, 0))), []int{0, 0, 0}, 0, api.OK},
		{wigs([]int{0, 0, 0}, list(looks(9, 0), looks(9, 1)), list(looks(5, 1), looks(6, 2))), []int{0, 0, 6}, 3, api.OK},
		{released(), []int{0, 0}, 9, api.OK},
		// of as many ounces those of the plan that costs least
		{roomOf([]int{5, 1}, []int{0, 0, 0}, list(looks(0, 0, 0), looks(0, 0, 1)), list(looks(2, 1, 1))), []int{0, 2, 0}, 5, api.OK},
		{wigs([]int{0, 0, 0}, list(looks(0, 1), looks(0, 2)), list(looks(2, 0), looks(0, 2))), []int{2, 0, 0}, 3, api.OK},
		{several(3), []int{9, 0, 0}, 3, api.OK},
		{backwards(several(3)), []int{9, 0, 0}, 3, api.OK},
		// of several those of the first one
		{several(0), []int{9, 0, 0}, 0, api.OK},
		{backwards(several(0)), []int{0, 9, 0}, 0, api.OK},
	} {
		ounces, cost, e := dress.Buy(c.r)
		if !slices.Equal(ounces, c.ounces) || cost != c.cost || e != c.e {
			t.Errorf("%d: Buy = %v, %d, %d, not %v, %d, %d", i, ounces, cost, e, c.ounces, c.cost, c.e)
		}
	}
}

// oddRooms are R with something odd about it, in all that n can be.
func oddRooms(n int) []api.DrRoom {
	many := max(0, min(n, 1001))
	var rooms []api.DrRoom
	for _, do := range []func(r *api.DrRoom){
		func(r *api.DrRoom) { r.Costs = make([]int, many) },
		func(r *api.DrRoom) { r.Costs[1] = n },
		func(r *api.DrRoom) { r.Ounces = make([]int, many) },
		func(r *api.DrRoom) { r.Ounces[1] = n },
		func(r *api.DrRoom) { r.Figures = make([]api.DrLook, many) },
		func(r *api.DrRoom) { r.Figures = r.Figures[:min(many, 3)] },
		func(r *api.DrRoom) { r.Figures[0].Name = strings.Repeat("a", many) },
		func(r *api.DrRoom) { r.Figures[0].Looks = make([]int, many) },
		func(r *api.DrRoom) { r.Figures[1].Looks[0] = n },
		func(r *api.DrRoom) { r.Figures[1].Looks[2] = n },
		func(r *api.DrRoom) { r.Figures[2].Hair = n },
		func(r *api.DrRoom) { r.Persons = make([]api.DrLook, many) },
		func(r *api.DrRoom) { r.Persons = r.Persons[:min(many, 3)] },
		func(r *api.DrRoom) { r.Persons[0].Name = strings.Repeat("\xff", many) },
		func(r *api.DrRoom) { r.Persons[0].Looks = make([]int, many) },
		func(r *api.DrRoom) { r.Persons[1].Looks[0] = n },
		func(r *api.DrRoom) { r.Persons[1].Looks[1] = n },
		func(r *api.DrRoom) { r.Persons[2].Hair = n },
	} {
		rooms = append(rooms, changed(exampleR(), do))
	}
	return rooms
}

func TestP9_16AnyArguments(t *testing.T) {
	odd := []int{math.MinInt, -2, -1, 0, 1, 2, 3, 4, 5, 6, 7, 50, 51, 100, 101, math.MaxInt}
	rooms := []api.DrRoom{{}, {Costs: []int{1}, Ounces: []int{1}, Figures: make([]api.DrLook, 1000), Persons: make([]api.DrLook, 1000)}, exampleR()}
	for _, n := range odd {
		rooms = append(rooms, oddRooms(n)...)
	}
	for _, r := range rooms {
		before := fmt.Sprint(r)
		for _, n := range odd {
			plans := [][]int{nil, {n}, {0, 1, n}, {n, n, n}, make([]int, max(0, min(n, 1000)))}
			for _, plan := range plans {
				was := fmt.Sprint(plan)
				first, errors := callAll(r, n, n, plan)
				if again, _ := callAll(r, n, n, plan); again != first {
					t.Fatalf("%v, %d, %v: %s, and then %s", r, n, plan, first, again)
				}
				if len(errors) != 8 || fmt.Sprint(plan) != was {
					t.Fatalf("%v, %d, %s: %v, %v", r, n, was, errors, plan)
				}
			}
			callAll(r, 0, n, nil)
			callAll(r, n, 0, nil)
		}
		if fmt.Sprint(r) != before {
			t.Errorf("%s was modified: %v", before, r)
		}
	}
}

func TestP9_16NewMemory(t *testing.T) {
	r := exampleR()
	// Arguments have room behind their end, which is not to be written to, either.
	r.Ounces = append(make([]int, 0, 4), r.Ounces...)
	r.Figures[0].Looks = append(make([]int, 0, 5), r.Figures[0].Looks...)
	order := append(make([]int, 0, 5), 1, 0, 2)
	all := func() string { return fmt.Sprint(r, r.Ounces[:4], r.Figures[0].Looks[:5], order[:5]) }
	before := all()
	text, _ := callAll(r, 0, 0, order)
	_, kinds, _ := dress.Cost(r, 0, 0)
	left, _ := dress.Left(r, order)
	best, _, _ := dress.Best(r)
	who, _ := dress.Who(r, 0)
	out, _ := dress.Out(exampleP())
	ounces, _, _ := dress.Buy(r)
	for i, result := range [][]int{kinds, left, best, who, out, ounces} {
		if len(result) == 0 {
			t.Fatalf("%d: no result", i)
		}
		for at := range result {
			result[at] = 7
		}
		_ = append(result, 8, 8)
		for j, other := range [][]int{kinds, left, best, who, out, ounces} {
			if j > i && slices.Contains(other, 7) {
				t.Errorf("%d and %d share memory", i, j)
			}
		}
	}
	if again, _ := callAll(r, 0, 0, order); again != text || all() != before {
		t.Error("a result shares memory with an argument, or is kept")
	}
	r.Figures[2].Looks[0] = 1
	if cost, kinds, _ := dress.Cost(r, 2, 0); cost != 0 || len(kinds) > 0 {
		t.Errorf("Cost of another room = %d, %v", cost, kinds)
	}
}

func TestP9_16NilAndEmpty(t *testing.T) {
	for i, c := range []struct{ a, b api.DrRoom }{
		{api.DrRoom{}, api.DrRoom{Costs: []int{}, Ounces: []int{}, Figures: list(), Persons: list()}},
		{api.DrRoom{Costs: []int{1}}, api.DrRoom{Costs: []int{1}, Ounces: []int{}}},
		{gowns(nil, nil), changed(gowns(nil, nil), func(r *api.DrRoom) { r.Figures, r.Persons = list(), list() })},
		{gowns([]int{1}, nil), changed(gowns([]int{1}, nil), func(r *api.DrRoom) { r.Persons = list() })},
		{gowns(nil, []int{1}), changed(gowns(nil, []int{1}), func(r *api.DrRoom) { r.Figures = list() })},
		{wigs([]int{1}, list(api.DrLook{}), nil), wigs([]int{1}, list(looks(0, []int{}...)), list())},
	} {
		a, _ := callAll(c.a, 0, 0, nil)
		if b, _ := callAll(c.b, 0, 0, []int{}); a != b {
			t.Errorf("%d: %s, and %s", i, a, b)
		}
	}
}
