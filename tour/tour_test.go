package tour_test

import (
	"fmt"
	"math"
	"slices"
	"strings"
	"testing"

	"ceroplast/api"
	"ceroplast/tour"
)

func span(lo, hi int) api.Span { return api.Span{Lo: lo, Hi: hi} }

func stay(town, day, days int) api.ToStay { return api.ToStay{Town: town, Day: day, Stay: days} }

func stays(list ...api.ToStay) []api.ToStay { return list }

func road(a, b, long, cost int) api.ToRoad { return api.ToRoad{A: a, B: b, Long: long, Cost: cost} }

func fair(town, day, lo, hi int) api.ToFair {
	return api.ToFair{Town: town, Day: day, More: span(lo, hi)}
}

// was is heard of the rival, and wasNot.
func was(town, day int) api.ToSeen { return api.ToSeen{Town: town, Day: day, Was: true} }

func wasNot(town, day int) api.ToSeen { return api.ToSeen{Town: town, Day: day} }

// aTown is a town without a name yet.
func aTown(lo, hi, rent, after int) api.ToTown {
	return api.ToTown{Takes: span(lo, hi), Rent: rent, After: after}
}

// seasonOf is a season of these towns, a, b and so on, in the first of which the show begins, and the rival in the last one.
func seasonOf(days int, towns []api.ToTown, roads ...api.ToRoad) api.ToSeason {
	s := api.ToSeason{Days: days, Rival: len(towns) - 1, Roads: roads}
	for i, t := range towns {
		t.Name = string(rune('a' + i))
		s.Towns = append(s.Towns, t)
	}
	return s
}

// lineOf is a season of so many towns like this one, each with a road to the next one.
func lineOf(days, towns int, like api.ToTown, long, cost int) api.ToSeason {
	s := seasonOf(days, slices.Repeat([]api.ToTown{like}, towns))
	for i := range towns - 1 {
		s.Roads = append(s.Roads, road(i, i+1, long, cost))
	}
	return s
}

// line is a season of four days and of three towns in a line, in which 10 pence are taken on a day, or 5.
func line(seen ...api.ToSeen) api.ToSeason {
	s := lineOf(4, 3, aTown(10, 10, 0, 50), 1, 1)
	s.Seen = seen
	return s
}

// alone is a season of one town, in which the rival cannot but be.
func alone(days int, t api.ToTown, fairs ...api.ToFair) api.ToSeason {
	s := seasonOf(days, []api.ToTown{t})
	s.Fairs = fairs
	return s
}

// free is a season of two towns between which there is no road: the show is in one of them, and the rival in the other one.
func free(days int, t api.ToTown, fairs ...api.ToFair) api.ToSeason {
	s := seasonOf(days, []api.ToTown{t, aTown(0, 0, 0, 0)})
	s.Fairs = fairs
	return s
}

// exampleS is S of the chapter's examples.
func exampleS() api.ToSeason {
	return api.ToSeason{
		Towns: []api.ToTown{
			{Name: "york", Takes: span(100, 120), Rent: 10, After: 50},
			{Name: "leeds", Takes: span(80, 90), Rent: 5, After: 25},
			{Name: "hull", Takes: span(150, 200), Rent: 20, After: 60},
		},
		Roads: []api.ToRoad{road(0, 1, 1, 10), road(0, 2, 2, 15), road(1, 2, 1, 12)},
		Fairs: []api.ToFair{fair(2, 5, 100, 150)},
		Days:  8,
		Rival: 1,
		Seen:  []api.ToSeen{wasNot(0, 1)},
	}
}

// exampleA is A of the chapter's examples.
func exampleA() []api.ToStay { return stays(stay(0, 0, 3), stay(2, 5, 3)) }

// changed is a season that something was done to.
func changed(s api.ToSeason, do func(s *api.ToSeason)) api.ToSeason {
	s.Towns, s.Roads = slices.Clone(s.Towns), slices.Clone(s.Roads)
	s.Fairs, s.Seen = slices.Clone(s.Fairs), slices.Clone(s.Seen)
	do(&s)
	return s
}

// heard is a season in which this was heard, and nothing else.
func heard(s api.ToSeason, seen ...api.ToSeen) api.ToSeason {
	s.Seen = seen
	return s
}

// from is a season in which the show, and the rival, begin in these towns.
func from(s api.ToSeason, home, rival int) api.ToSeason {
	s.Home, s.Rival = home, rival
	return s
}

// change is something that is done to S, and what Check says of it then.
type change struct {
	name     string
	do       func(s *api.ToSeason)
	part, at int
	e        api.Errno
}

func (c change) season() api.ToSeason { return changed(exampleS(), c.do) }

// outside are numbers that are not from lo to hi.
func outside(lo, hi int) []int { return []int{math.MinInt, lo - 1, hi + 1, math.MaxInt} }

func badDays() []change {
	changes := []change{
		{"no season at all", func(s *api.ToSeason) { *s = api.ToSeason{} }, 1, 0, api.ErrRange},
		{"days before towns", func(s *api.ToSeason) { s.Days, s.Towns = 0, nil }, 1, 0, api.ErrRange},
	}
	for _, n := range outside(1, 10) {
		changes = append(changes, change{fmt.Sprint("days ", n), func(s *api.ToSeason) { s.Days = n }, 1, 0, api.ErrRange})
	}
	return changes
}

func badTowns() []change {
	one := func(name string, at int, t api.ToTown, e api.Errno) change {
		return change{"a town: " + name, func(s *api.ToSeason) { s.Towns[at] = t }, 2, at, e}
	}
	named := func(name string, t api.ToTown) api.ToTown {
		t.Name = name
		return t
	}
	changes := []change{
		{"no towns", func(s *api.ToSeason) { s.Towns = nil }, 2, 0, api.ErrLong},
		{"no towns before roads", func(s *api.ToSeason) { s.Towns, s.Roads = []api.ToTown{}, make([]api.ToRoad, 7) }, 2, 0, api.ErrLong},
		{"5 towns", func(s *api.ToSeason) { s.Towns = seasonOf(1, make([]api.ToTown, 5)).Towns }, 2, 0, api.ErrLong},
		{"too many towns before a wrong one", func(s *api.ToSeason) { s.Towns = make([]api.ToTown, 5) }, 2, 0, api.ErrLong},
		one("no name", 0, named("", aTown(0, 0, 0, 0)), api.ErrForm),
		one("a name", 1, named("Leeds", aTown(0, 0, 0, 0)), api.ErrForm),
		one("a long name", 2, named("abcdefghijklmnopq", aTown(0, 0, 0, 0)), api.ErrForm),
		one("a name before all else", 1, named("9", aTown(2, 1, -1, -1)), api.ErrForm),
		one("two of one name", 2, named("york", aTown(0, 0, 0, 0)), api.ErrTwice),
		one("two of one name before all else", 1, named("york", aTown(2, 1, -1, -1)), api.ErrTwice),
		one("Rent before Lo above Hi", 1, named("b", aTown(2, 1, -1, 0)), api.ErrRange),
		one("After before Lo above Hi", 1, named("b", aTown(2, 1, 0, 101)), api.ErrRange),
		one("Lo above Hi", 1, named("b", aTown(2, 1, 0, 0)), api.ErrArg),
		one("Lo far above Hi", 2, named("b", aTown(2000, 0, 2000, 100)), api.ErrArg),
		{"the first wrong town", func(s *api.ToSeason) { s.Towns[1].Takes, s.Towns[2].Name = span(2, 1), "" }, 2, 1, api.ErrArg},
		{"a town before roads", func(s *api.ToSeason) { s.Towns[2].After, s.Roads = 101, make([]api.ToRoad, 7) }, 2, 2, api.ErrRange},
	}
	for _, n := range outside(0, 2000) {
		changes = append(changes,
			one(fmt.Sprint("Lo ", n), 0, named("b", aTown(n, 2000, 0, 0)), api.ErrRange),
			one(fmt.Sprint("Hi ", n), 1, named("b", aTown(0, n, 0, 0)), api.ErrRange),
			one(fmt.Sprint("Rent ", n), 2, named("b", aTown(0, 0, n, 0)), api.ErrRange))
	}
	for _, n := range outside(0, 100) {
		changes = append(changes, one(fmt.Sprint("After ", n), 1, named("b", aTown(0, 0, 0, n)), api.ErrRange))
	}
	return changes
}

func badRoads() []change {
	one := func(name string, at int, r api.ToRoad, e api.Errno) change {
		return change{"a road: " + name, func(s *api.ToSeason) { s.Roads[at] = r }, 3, at, e}
	}
	changes := []change{
		{"7 roads before a wrong one", func(s *api.ToSeason) { s.Roads = make([]api.ToRoad, 7) }, 3, 0, api.ErrLong},
		{"too many roads before fairs", func(s *api.ToSeason) { s.Roads, s.Fairs = make([]api.ToRoad, 100), make([]api.ToFair, 4) }, 3, 0, api.ErrLong},
		one("no such town before all else", 1, road(3, 3, 0, -1), api.ErrNone),
		one("A is B before all else", 1, road(1, 1, 0, -1), api.ErrArg),
		one("A is above B before all else", 2, road(1, 0, 0, -1), api.ErrArg),
		one("A is above B", 2, road(2, 1, 1, 0), api.ErrArg),
		one("twice before all else", 1, road(0, 1, 0, -1), api.ErrTwice),
		one("twice, but of another length and cost", 2, road(0, 1, 4, 0), api.ErrTwice),
		{"the first wrong road", func(s *api.ToSeason) { s.Roads[0].Long, s.Roads[1].A = 5, 3 }, 3, 0, api.ErrRange},
		{"a road before fairs", func(s *api.ToSeason) { s.Roads[2].Cost, s.Fairs = -1, make([]api.ToFair, 4) }, 3, 2, api.ErrRange},
		{"a road to a town that is not there any more", func(s *api.ToSeason) { s.Towns = s.Towns[:2] }, 3, 1, api.ErrNone},
	}
	for _, n := range outside(0, 2) {
		changes = append(changes, one(fmt.Sprint("A ", n), 0, road(n, 2, 1, 0), api.ErrNone), one(fmt.Sprint("B ", n), 1, road(0, n, 1, 0), api.ErrNone))
	}
	for _, n := range outside(1, 4) {
		changes = append(changes, one(fmt.Sprint("Long ", n), 2, road(1, 2, n, 0), api.ErrRange))
	}
	for _, n := range outside(0, 2000) {
		changes = append(changes, one(fmt.Sprint("Cost ", n), 2, road(1, 2, 1, n), api.ErrRange))
	}
	return changes
}

func badFairs() []change {
	one := func(name string, f api.ToFair, e api.Errno) change {
		return change{"a fair: " + name, func(s *api.ToSeason) { s.Fairs = []api.ToFair{s.Fairs[0], f} }, 4, 1, e}
	}
	changes := []change{
		{"4 fairs before a wrong one", func(s *api.ToSeason) { s.Fairs = []api.ToFair{fair(3, 0, 0, 0), {}, {}, {}} }, 4, 0, api.ErrLong},
		{"too many fairs before Home", func(s *api.ToSeason) { s.Fairs, s.Home = make([]api.ToFair, 100), 3 }, 4, 0, api.ErrLong},
		one("no such town before all else", fair(3, 8, 2, -1), api.ErrNone),
		one("a day before More", fair(2, 8, 2, 1), api.ErrRange),
		one("Lo above Hi", fair(2, 7, 2, 1), api.ErrArg),
		{"the first wrong fair", func(s *api.ToSeason) { s.Fairs = []api.ToFair{{}, fair(0, 0, 1, 0), fair(3, 0, 0, 0)} }, 4, 1, api.ErrArg},
		{"a fair before Home", func(s *api.ToSeason) { s.Fairs[0].More, s.Home = span(2, 1), 3 }, 4, 0, api.ErrArg},
		{"a fair behind the end of the season", func(s *api.ToSeason) { s.Days = 5 }, 4, 0, api.ErrRange},
	}
	for _, n := range outside(0, 2) {
		changes = append(changes, one(fmt.Sprint("Town ", n), fair(n, 0, 0, 0), api.ErrNone))
	}
	for _, n := range outside(0, 7) {
		changes = append(changes, one(fmt.Sprint("Day ", n), fair(0, n, 0, 0), api.ErrRange))
	}
	for _, n := range outside(0, 2000) {
		changes = append(changes, one(fmt.Sprint("Lo ", n), fair(0, 0, n, 0), api.ErrRange), one(fmt.Sprint("Hi ", n), fair(0, 0, 0, n), api.ErrRange))
	}
	return changes
}

func badSeen() []change {
	one := func(name string, x api.ToSeen, e api.Errno) change {
		return change{"heard: " + name, func(s *api.ToSeason) { s.Seen = append(s.Seen, x) }, 6, 1, e}
	}
	changes := []change{
		{"Home before Seen", func(s *api.ToSeason) { s.Home, s.Seen = 3, make([]api.ToSeen, 5) }, 5, 0, api.ErrNone},
		{"Rival before Seen", func(s *api.ToSeason) { s.Rival, s.Seen = 3, []api.ToSeen{was(3, 0)} }, 5, 0, api.ErrNone},
		{"5 heard before a wrong one", func(s *api.ToSeason) { s.Seen = append(make([]api.ToSeen, 4), was(3, 0)) }, 6, 0, api.ErrLong},
		{"far too many heard", func(s *api.ToSeason) { s.Seen = make([]api.ToSeen, 100) }, 6, 0, api.ErrLong},
		one("no such town before the day", was(3, 8), api.ErrNone),
		{"the first wrong one heard", func(s *api.ToSeason) { s.Seen = []api.ToSeen{was(1, 0), was(0, 8), was(3, 0)} }, 6, 1, api.ErrRange},
		{"heard behind the end of the season", func(s *api.ToSeason) { s.Days, s.Fairs = 1, nil }, 6, 0, api.ErrRange},
	}
	for _, n := range outside(0, 2) {
		changes = append(changes,
			change{fmt.Sprint("Home ", n), func(s *api.ToSeason) { s.Home = n }, 5, 0, api.ErrNone},
			change{fmt.Sprint("Rival ", n), func(s *api.ToSeason) { s.Rival = n }, 5, 0, api.ErrNone},
			one(fmt.Sprint("Town ", n), wasNot(n, 0), api.ErrNone))
	}
	for _, n := range outside(0, 7) {
		changes = append(changes, one(fmt.Sprint("Day ", n), was(0, n), api.ErrRange))
	}
	return changes
}

func badSeasons() []change {
	return slices.Concat(badDays(), badTowns(), badRoads(), badFairs(), badSeen())
}

func goodSeasons() []change {
	return []change{
		{name: "S", do: func(s *api.ToSeason) {}},
		{name: "one town and one day", do: func(s *api.ToSeason) { *s = alone(1, aTown(0, 0, 0, 0)) }},
		{name: "no roads, fairs and nothing heard", do: func(s *api.ToSeason) { s.Roads, s.Fairs, s.Seen = nil, nil, nil }},
		{name: "the greatest numbers", do: func(s *api.ToSeason) {
			*s = seasonOf(10, slices.Repeat([]api.ToTown{aTown(2000, 2000, 2000, 100)}, 4),
				road(0, 1, 4, 2000), road(0, 2, 4, 2000), road(0, 3, 4, 2000), road(1, 2, 4, 2000), road(1, 3, 4, 2000), road(2, 3, 4, 2000))
			s.Towns[0].Name, s.Towns[3].Name = "abcdefghijklmnop", "z.9"
			s.Fairs = slices.Repeat([]api.ToFair{fair(3, 9, 2000, 2000)}, 3)
			s.Home, s.Seen = 3, slices.Repeat([]api.ToSeen{wasNot(3, 9)}, 4)
		}},
		{name: "the least numbers", do: func(s *api.ToSeason) {
			*s = lineOf(1, 2, aTown(0, 0, 0, 0), 1, 0)
			s.Fairs, s.Seen = make([]api.ToFair, 3), make([]api.ToSeen, 4)
		}},
		{name: "roads in another order", do: func(s *api.ToSeason) { slices.Reverse(s.Roads) }},
		{name: "what was heard contradicts itself", do: func(s *api.ToSeason) { s.Seen = []api.ToSeen{was(0, 0), wasNot(0, 0)} }},
		{name: "home is where the rival begins", do: func(s *api.ToSeason) { s.Home = 1 }},
		{name: "two fairs at once", do: func(s *api.ToSeason) { s.Fairs = append(s.Fairs, s.Fairs[0]) }},
	}
}

func TestP10_1Check(t *testing.T) {
	for _, c := range slices.Concat(badSeasons(), goodSeasons()) {
		if part, at, e := tour.Check(c.season()); part != c.part || at != c.at || e != c.e {
			t.Errorf("%s: Check = %d, %d, %d, not %d, %d, %d", c.name, part, at, e, c.part, c.at, c.e)
		}
	}
}

// callAll calls every function, and returns all results as a text, and all errors of those that are not of Check.
func callAll(s api.ToSeason, town, day int, list []api.ToStay, rival []int) (string, []api.Errno) {
	var out []any
	call := func(results ...any) { out = append(out, results...) }
	call(tour.Check(s))
	checks := len(out)
	call(tour.Rival(s, day))
	call(tour.Came(s, town, day))
	call(tour.Wrong(s))
	call(tour.Costs(s, list))
	call(tour.Earns(s, list))
	call(tour.Best(s))
	call(tour.Against(s, rival))
	call(tour.Spoilt(s, list))
	var errors []api.Errno
	for _, result := range out[checks:] {
		if e, isErrno := result.(api.Errno); isErrno {
			errors = append(errors, e)
		}
	}
	return fmt.Sprint(out...), errors
}

// nothing is the text of callAll, behind Check, if all functions return this error, and nothing else.
func nothing(e api.Errno) string {
	none, noStays := []int(nil), []api.ToStay(nil)
	return fmt.Sprint(none, e, 0, e, none, e, 0, 0, e, api.Span{}, e, noStays, 0, e, noStays, 0, e, none, none, e)
}

func TestErrorOfTheSeasonComesFirst(t *testing.T) {
	for _, c := range badSeasons() {
		s := c.season()
		want := fmt.Sprint(c.part, c.at, c.e) + " " + nothing(c.e)
		for _, n := range []int{0, -1, 9} {
			for _, list := range [][]api.ToStay{nil, exampleA(), {stay(n, n, n)}} {
				for _, rival := range [][]int{nil, {n}, make([]int, 8)} {
					if got, _ := callAll(s, n, n, list, rival); got != want {
						t.Fatalf("%s: %d, %v, %v: %s, not %s", c.name, n, list, rival, got, want)
					}
				}
			}
		}
	}
}

// torn is S in which what was heard contradicts itself.
func torn() api.ToSeason { return heard(exampleS(), was(0, 1), wasNot(0, 1)) }

func TestNoTourOfTheRivalAgrees(t *testing.T) {
	got, _ := callAll(torn(), 0, 0, exampleA(), slices.Repeat([]int{1}, 8))
	want := fmt.Sprint(0, 0, api.OK, []int(nil), api.ErrZero, 0, api.ErrZero, []int{0}, api.OK, 8, 105, api.OK, api.Span{}, api.ErrZero, []api.ToStay(nil), 0, api.ErrZero, []api.ToStay(nil), 0, api.ErrArg, []int(nil), []int(nil), api.ErrZero)
	if got != want {
		t.Errorf("%s, not %s", got, want)
	}
	for _, n := range outside(0, 7) {
		if l, e := tour.Rival(torn(), n); len(l) > 0 || e != api.ErrRange {
			t.Errorf("Rival on %d = %v, %d", n, l, e)
		}
		if came, e := tour.Came(torn(), 0, n); came != 0 || e != api.ErrRange {
			t.Errorf("Came up to %d = %d, %d", n, came, e)
		}
	}
	for i, c := range badTours() {
		got, e := tour.Earns(heard(c.s, was(0, 0), wasNot(0, 0)), c.tour)
		must, may, f := tour.Spoilt(heard(c.s, was(0, 0), wasNot(0, 0)), c.tour)
		if got != span(0, 0) || e != c.e || len(must)+len(may) > 0 || f != c.e {
			t.Errorf("%d: Earns = %v, %d, Spoilt = %v, %v, %d", i, got, e, must, may, f)
		}
	}
}

func TestP10_2NoSuchTownOrDay(t *testing.T) {
	for _, s := range []api.ToSeason{exampleS(), torn()} {
		for _, town := range outside(0, 2) {
			for _, day := range append(outside(0, 7), 0, 7) {
				if came, e := tour.Came(s, town, day); came != 0 || e != api.ErrNone {
					t.Errorf("Came of %d up to %d = %d, %d", town, day, came, e)
				}
			}
		}
		for _, day := range outside(0, 7) {
			for town := range 3 {
				if came, e := tour.Came(s, town, day); came != 0 || e != api.ErrRange {
					t.Errorf("Came of %d up to %d = %d, %d", town, day, came, e)
				}
			}
			if l, e := tour.Rival(s, day); len(l) > 0 || e != api.ErrRange {
				t.Errorf("Rival on %d = %v, %d", day, l, e)
			}
		}
	}
}

func TestP10_2Rival(t *testing.T) {
	longRoads := lineOf(4, 3, aTown(0, 0, 0, 0), 4, 2000)
	apart := heard(seasonOf(3, make([]api.ToTown, 4), road(0, 1, 1, 0), road(2, 3, 1, 0)))
	for i, c := range []struct {
		s    api.ToSeason
		days [][]int // on each day
	}{
		{exampleS(), [][]int{{1}, {1, 2}, {0, 1, 2}, {0, 1, 2}, {0, 1, 2}, {0, 1, 2}, {0, 1, 2}, {0, 1, 2}}},
		{heard(exampleS()), [][]int{{1}, {0, 1, 2}, {0, 1, 2}}},
		{line(), [][]int{{2}, {1, 2}, {0, 1, 2}, {0, 1, 2}}},
		{from(line(), 0, 1), [][]int{{1}, {0, 1, 2}, {0, 1, 2}, {0, 1, 2}}},
		{from(line(), 2, 0), [][]int{{0}, {0, 1}, {0, 1, 2}, {0, 1, 2}}},
		// however long roads are
		{longRoads, [][]int{{2}, {1, 2}, {0, 1, 2}, {0, 1, 2}}},
		// no road leads to the others
		{alone(2, aTown(0, 0, 0, 0)), [][]int{{0}, {0}}},
		{free(3, aTown(0, 0, 0, 0)), [][]int{{1}, {1}, {1}}},
		{apart, [][]int{{3}, {2, 3}, {2, 3}}},
		{from(apart, 0, 0), [][]int{{0}, {0, 1}, {0, 1}}},
		// what was heard is known of days before, too
		{line(was(0, 3)), [][]int{{2}, {1, 2}, {0, 1}, {0}}},
		{line(was(0, 2)), [][]int{{2}, {1}, {0}, {0, 1}}},
		{line(was(2, 2)), [][]int{{2}, {1, 2}, {2}, {1, 2}}},
		{line(wasNot(1, 1)), [][]int{{2}, {2}, {1, 2}, {0, 1, 2}}},
		{line(wasNot(1, 1), wasNot(1, 2)), [][]int{{2}, {2}, {2}, {1, 2}}},
		{line(wasNot(2, 1), wasNot(1, 2)), [][]int{{2}, {1}, {0, 2}, {0, 1, 2}}},
		{line(wasNot(2, 2), wasNot(1, 2)), [][]int{{2}, {1}, {0}, {0, 1}}},
		{line(wasNot(2, 3), wasNot(1, 3)), [][]int{{2}, {1, 2}, {0, 1}, {0}}},
		{line(was(2, 0), wasNot(1, 0)), [][]int{{2}, {1, 2}, {0, 1, 2}, {0, 1, 2}}},
		{line(was(0, 3), wasNot(2, 1), wasNot(0, 2)), [][]int{{2}, {1}, {1}, {0}}},
		{line(was(1, 2), was(1, 2)), [][]int{{2}, {1, 2}, {1}, {0, 1, 2}}},
	} {
		for day, want := range c.days {
			if got, e := tour.Rival(c.s, day); !slices.Equal(got, want) || e != api.OK {
				t.Errorf("%d: Rival on %d = %v, %d, not %v", i, day, got, e, want)
			}
		}
	}
}

func TestP10_2Impossible(t *testing.T) {
	for i, s := range []api.ToSeason{
		torn(),
		line(wasNot(2, 0)), line(was(1, 0)), line(was(0, 1)), line(was(2, 1), was(0, 2)), line(was(0, 2), was(2, 3)),
		line(was(1, 2), was(2, 2)), line(wasNot(1, 1), wasNot(2, 1)), line(wasNot(0, 3), wasNot(1, 3), wasNot(2, 3)),
		line(wasNot(1, 1), wasNot(1, 2), was(0, 3)),
		heard(alone(2, aTown(0, 0, 0, 0)), wasNot(0, 1)),
		heard(free(2, aTown(0, 0, 0, 0)), was(0, 1)),
	} {
		for day := range s.Days {
			if got, e := tour.Rival(s, day); len(got) > 0 || e != api.ErrZero {
				t.Errorf("%d: Rival on %d = %v, %d", i, day, got, e)
			}
			if got, e := tour.Came(s, 0, day); got != 0 || e != api.ErrZero {
				t.Errorf("%d: Came up to %d = %v, %d", i, day, got, e)
			}
		}
	}
}

func TestP10_2Came(t *testing.T) {
	const sure, may, never = api.ToSure, api.ToMay, api.ToNever
	for i, c := range []struct {
		s    api.ToSeason
		town int
		days []int // up to each day
	}{
		{exampleS(), 0, []int{never, never, may, may, may, may, may, may}},
		{exampleS(), 1, []int{sure, sure, sure, sure, sure, sure, sure, sure}},
		{exampleS(), 2, []int{never, may, may}},
		{line(), 0, []int{never, never, may, may}},
		{line(), 1, []int{never, may, may, may}},
		{line(), 2, []int{sure, sure, sure, sure}},
		// it was there before, wherever it is now
		{line(was(0, 2)), 1, []int{never, sure, sure, sure}},
		{line(was(0, 2)), 0, []int{never, never, sure, sure}},
		{line(was(0, 3)), 1, []int{never, may, sure, sure}},
		{line(was(0, 3)), 0, []int{never, never, may, sure}},
		{line(was(1, 1), was(2, 3)), 1, []int{never, sure, sure, sure}},
		{line(was(1, 1), was(2, 3)), 0, []int{never, never, never, never}},
		{line(was(1, 1)), 0, []int{never, never, may, may}},
		{line(was(2, 3)), 0, []int{never, never, never, never}},
		{line(was(2, 3)), 1, []int{never, may, may, may}},
		{line(wasNot(0, 3), wasNot(0, 2)), 0, []int{never, never, never, never}},
		{line(wasNot(0, 3)), 0, []int{never, never, may, may}},
		// one way or the other
		{from(line(wasNot(1, 1)), 0, 1), 0, []int{never, may, may, may}},
		{from(line(wasNot(1, 1)), 0, 1), 2, []int{never, may, may, may}},
		{from(line(wasNot(1, 1), wasNot(0, 1)), 0, 1), 2, []int{never, sure, sure, sure}},
		{from(line(wasNot(1, 1), wasNot(1, 3)), 0, 1), 1, []int{sure, sure, sure, sure}},
		{alone(2, aTown(0, 0, 0, 0)), 0, []int{sure, sure}},
		{free(2, aTown(0, 0, 0, 0)), 0, []int{never, never}},
	} {
		for day, want := range c.days {
			if got, e := tour.Came(c.s, c.town, day); got != want || e != api.OK {
				t.Errorf("%d: Came of %d up to %d = %d, %d, not %d", i, c.town, day, got, e, want)
			}
		}
	}
}

func TestP10_3Wrong(t *testing.T) {
	for i, c := range []struct {
		s    api.ToSeason
		want []int
	}{
		{exampleS(), nil},
		{heard(exampleS()), nil},
		{changed(exampleS(), func(s *api.ToSeason) { s.Seen = append(s.Seen, was(0, 1)) }), []int{0}},
		{line(), nil},
		{line(was(2, 0), was(1, 1), was(0, 2), was(0, 3)), nil},
		// alone
		{line(wasNot(2, 0)), []int{0}},
		{line(was(1, 1), was(0, 1)), []int{1}},
		{line(was(1, 1), was(1, 2), was(0, 1)), []int{2}},
		{line(was(1, 1), wasNot(1, 0), was(1, 2), was(0, 0)), []int{3}},
		// the first of several
		{line(was(1, 1), was(2, 1)), []int{0}},
		{line(was(2, 1), was(0, 2)), []int{0}},
		{line(was(2, 2), was(1, 2), was(0, 3)), []int{0}},
		{line(was(1, 3), was(2, 2), was(0, 2)), []int{1}},
		{line(was(1, 3), was(2, 2), was(0, 3)), []int{2}},
		{line(was(0, 3), was(2, 2), was(1, 3), wasNot(1, 3)), []int{0, 2}},
		// the fewest
		{line(was(1, 1), wasNot(1, 1), wasNot(1, 1)), []int{0}},
		{line(wasNot(1, 1), was(1, 1), wasNot(1, 1)), []int{1}},
		{line(wasNot(1, 1), wasNot(1, 1), was(1, 1)), []int{2}},
		{line(wasNot(1, 1), was(1, 1), was(1, 1), was(1, 1)), []int{0}},
		{line(wasNot(1, 1), wasNot(2, 1), was(2, 2), was(2, 1)), []int{1}},
		{line(wasNot(1, 1), was(1, 1), was(1, 1), wasNot(1, 1)), []int{0, 3}},
		{line(was(1, 1), wasNot(1, 1), wasNot(1, 1), was(1, 1)), []int{0, 3}},
		{line(was(0, 1), wasNot(2, 0), was(1, 1)), []int{0, 1}},
		{line(was(1, 1), was(0, 1), wasNot(2, 0), was(1, 0)), []int{1, 2, 3}},
		// all
		{line(wasNot(2, 0), was(0, 1), was(1, 0), was(0, 0)), []int{0, 1, 2, 3}},
		{heard(alone(2, aTown(0, 0, 0, 0)), wasNot(0, 1), was(0, 1), wasNot(0, 0)), []int{0, 2}},
		{heard(free(2, aTown(0, 0, 0, 0)), was(0, 1), was(0, 1), was(0, 1), was(0, 1)), []int{0, 1, 2, 3}},
	} {
		if got, e := tour.Wrong(c.s); !slices.Equal(got, c.want) || e != api.OK {
			t.Errorf("%d: Wrong = %v, %d, not %v", i, got, e, c.want)
		}
	}
}

// toured is a tour of a season, and its error.
type toured struct {
	s    api.ToSeason
	tour []api.ToStay
	e    api.Errno
}

func badTours() []toured {
	s, york := exampleS(), stay(0, 0, 1)
	tours := []toured{
		{s, stays(stay(3, 9, 9)), api.ErrNone},
		{s, stays(york, stay(3, 9, 9)), api.ErrNone},
		{s, stays(york, stay(0, 1, 1)), api.ErrTwice},
		{s, stays(york, stay(0, 9, 9)), api.ErrTwice},
		{s, stays(york, york), api.ErrTwice},
		{s, stays(york, stay(1, 2, 1), stay(0, 9, 9)), api.ErrTwice},
		{s, stays(stay(1, 1, 1), york, stay(1, 5, 1)), api.ErrArg},
		{s, stays(stay(1, 1, 1), stay(0, 3, 1), stay(1, 5, 1)), api.ErrTwice},
		{s, stays(stay(0, 9, 4)), api.ErrRange},
		{s, stays(york, stay(1, 9, 0)), api.ErrRange},
		{line(), stays(stay(2, 9, 4)), api.ErrRange},
		{line(), stays(stay(2, 9, 1)), api.ErrDown},
		{line(), stays(stay(2, 0, 1)), api.ErrDown},
		{line(), stays(york, stay(2, 2, 1)), api.ErrDown},
		{line(), stays(york, stay(2, 1, 3)), api.ErrDown},
		{from(line(), 2, 2), stays(york), api.ErrDown},
		{free(3, aTown(0, 0, 0, 0)), stays(stay(1, 0, 1)), api.ErrDown},
		// the day
		{s, stays(stay(0, 1, 1)), api.ErrArg},
		{s, stays(stay(0, 9, 3)), api.ErrArg},
		{s, stays(stay(1, 0, 1)), api.ErrArg},
		{s, stays(stay(1, 2, 1)), api.ErrArg},
		{s, stays(stay(2, 1, 1)), api.ErrArg},
		{s, stays(york, stay(1, 1, 1)), api.ErrArg},
		{s, stays(york, stay(1, 3, 1)), api.ErrArg},
		{s, stays(york, stay(2, 2, 1)), api.ErrArg},
		{s, stays(stay(0, 0, 3), stay(2, 4, 3)), api.ErrArg},
		{from(s, 1, 1), stays(york), api.ErrArg},
		// the end
		{alone(2, aTown(0, 0, 0, 0)), stays(stay(0, 0, 3)), api.ErrLong},
		{line(), stays(stay(0, 0, 3), stay(1, 4, 1)), api.ErrLong},
		{line(), stays(stay(0, 0, 2), stay(1, 3, 2)), api.ErrLong},
		{s, stays(stay(0, 0, 3), stay(1, 4, 2), stay(2, 7, 2)), api.ErrLong},
		{lineOf(4, 2, aTown(0, 0, 0, 0), 4, 0), stays(stay(1, 4, 1)), api.ErrLong},
		// the first stay with an error decides
		{s, stays(stay(0, 0, 4), stay(3, 0, 1)), api.ErrRange},
		{s, stays(stay(0, 1, 1), stay(0, 0, 1)), api.ErrArg},
		{line(), stays(stay(2, 0, 1), stay(3, 0, 1)), api.ErrDown},
		{alone(2, aTown(0, 0, 0, 0)), stays(stay(0, 0, 3), stay(1, 0, 1)), api.ErrLong},
		{s, slices.Repeat(stays(york), 1000), api.ErrTwice},
		{s, make([]api.ToStay, 1000), api.ErrRange},
	}
	for _, n := range outside(0, 2) {
		tours = append(tours, toured{s, stays(stay(n, 0, 1)), api.ErrNone}, toured{s, stays(york, stay(n, 2, 1)), api.ErrNone})
	}
	for _, n := range outside(1, 3) {
		tours = append(tours, toured{s, stays(stay(0, 0, n)), api.ErrRange}, toured{s, stays(york, stay(1, 2, n)), api.ErrRange})
	}
	for _, n := range outside(2, 2) {
		tours = append(tours, toured{s, stays(stay(2, n, 3)), api.ErrArg}, toured{s, stays(york, stay(1, n, 3)), api.ErrArg})
	}
	return tours
}

func TestErrorsOfTours(t *testing.T) {
	for i, c := range badTours() {
		day, pence, e := tour.Costs(c.s, c.tour)
		got, f := tour.Earns(c.s, c.tour)
		must, may, g := tour.Spoilt(c.s, c.tour)
		if day != 0 || pence != 0 || e != c.e || got != span(0, 0) || f != c.e || len(must)+len(may) > 0 || g != c.e {
			t.Errorf("%d: Costs = %d, %d, %d, Earns = %v, %d, Spoilt = %v, %v, %d", i, day, pence, e, got, f, must, may, g)
		}
	}
}

func TestP10_4Costs(t *testing.T) {
	for i, c := range []struct {
		s          api.ToSeason
		tour       []api.ToStay
		day, pence int
	}{
		{exampleS(), exampleA(), 8, 105},
		{exampleS(), nil, 0, 0},
		{exampleS(), stays(stay(0, 0, 1)), 1, 10},
		{exampleS(), stays(stay(0, 0, 3)), 3, 30},
		{exampleS(), stays(stay(1, 1, 1)), 2, 15},
		{exampleS(), stays(stay(2, 2, 2)), 4, 55},
		{exampleS(), stays(stay(0, 0, 1), stay(1, 2, 2), stay(2, 5, 3)), 8, 102},
		{exampleS(), stays(stay(1, 1, 3), stay(0, 5, 3)), 8, 65},
		{exampleS(), stays(stay(2, 2, 3), stay(1, 6, 2)), 8, 97},
		{exampleS(), stays(stay(2, 2, 3), stay(0, 7, 1)), 8, 100},
		{from(exampleS(), 2, 1), nil, 0, 0},
		{from(exampleS(), 2, 1), stays(stay(2, 0, 1), stay(1, 2, 1)), 3, 37},
		{from(exampleS(), 2, 1), stays(stay(1, 1, 1)), 2, 17},
		{from(exampleS(), 2, 1), stays(stay(0, 2, 1)), 3, 25},
		// whatever was heard
		{torn(), exampleA(), 8, 105},
		{torn(), nil, 0, 0},
		// up to the end of the season
		{alone(1, aTown(0, 0, 7, 0)), stays(stay(0, 0, 1)), 1, 7},
		{alone(3, aTown(9, 9, 2000, 0)), stays(stay(0, 0, 3)), 3, 6000},
		{lineOf(5, 2, aTown(0, 0, 1, 0), 4, 2000), stays(stay(1, 4, 1)), 5, 2001},
		{lineOf(10, 4, aTown(0, 0, 1, 0), 2, 100), stays(stay(0, 0, 1), stay(1, 3, 1), stay(2, 6, 1), stay(3, 9, 1)), 10, 304},
	} {
		if day, pence, e := tour.Costs(c.s, c.tour); day != c.day || pence != c.pence || e != api.OK {
			t.Errorf("%d: Costs = %d, %d, %d, not %d, %d", i, day, pence, e, c.day, c.pence)
		}
	}
}

// eitherTown is a season in which the rival was in a up to the day 1, or in b up to the day 3, but never in both.
func eitherTown(seen ...api.ToSeen) api.ToSeason {
	s := seasonOf(4, slices.Repeat([]api.ToTown{aTown(10, 10, 0, 50)}, 3), road(0, 1, 1, 1), road(0, 2, 1, 0), road(1, 2, 1, 0))
	s.Seen = append([]api.ToSeen{wasNot(1, 2), wasNot(1, 3)}, seen...)
	return s
}

func TestP10_4Earns(t *testing.T) {
	for i, c := range []struct {
		s    api.ToSeason
		tour []api.ToStay
		want api.Span
	}{
		{exampleS(), exampleA(), span(475, 1005)},
		{exampleS(), nil, span(0, 0)},
		{exampleS(), stays(stay(1, 1, 1)), span(5, 7)},
		{exampleS(), stays(stay(0, 0, 2)), span(180, 220)},
		// the rival never was there, or always
		{free(3, aTown(10, 20, 3, 50)), stays(stay(0, 0, 2)), span(14, 34)},
		{alone(3, aTown(10, 20, 3, 50)), stays(stay(0, 0, 2)), span(4, 14)},
		{free(3, aTown(10, 20, 3, 0)), stays(stay(0, 0, 1)), span(7, 17)},
		{alone(3, aTown(10, 20, 3, 0)), stays(stay(0, 0, 1)), span(-3, -3)},
		{alone(3, aTown(10, 20, 3, 100)), stays(stay(0, 0, 1)), span(7, 17)},
		{alone(3, aTown(0, 2000, 2000, 100)), stays(stay(0, 0, 3)), span(-6000, 0)},
		{free(3, aTown(2000, 2000, 0, 0)), stays(stay(0, 0, 3)), span(6000, 6000)},
		// rounded down, for each day alone
		{alone(3, aTown(5, 7, 0, 50)), stays(stay(0, 0, 1)), span(2, 3)},
		{alone(3, aTown(5, 7, 0, 50)), stays(stay(0, 0, 2)), span(4, 6)},
		{alone(1, aTown(1, 1, 0, 99)), stays(stay(0, 0, 1)), span(0, 0)},
		{alone(1, aTown(199, 200, 0, 1)), stays(stay(0, 0, 1)), span(1, 2)},
		{alone(1, aTown(1999, 2000, 0, 33)), stays(stay(0, 0, 1)), span(659, 660)},
		// with fairs, together
		{alone(1, aTown(5, 5, 0, 50), fair(0, 0, 5, 6)), stays(stay(0, 0, 1)), span(5, 5)},
		{alone(1, aTown(5, 5, 0, 50), fair(0, 0, 5, 7)), stays(stay(0, 0, 1)), span(5, 6)},
		{alone(1, aTown(1, 1, 0, 33), fair(0, 0, 1, 1), fair(0, 0, 1, 2)), stays(stay(0, 0, 1)), span(0, 1)},
		{free(3, aTown(1, 2, 0, 0), fair(0, 1, 10, 20), fair(0, 1, 100, 200)), stays(stay(0, 0, 2)), span(112, 224)},
		{free(3, aTown(1, 2, 0, 0), fair(0, 1, 10, 20), fair(0, 1, 100, 200)), stays(stay(0, 0, 1)), span(1, 2)},
		{free(3, aTown(1, 2, 0, 0), fair(0, 0, 10, 20), fair(0, 2, 100, 200)), stays(stay(0, 0, 3)), span(113, 226)},
		{free(3, aTown(1, 2, 0, 0), fair(1, 0, 10, 20), fair(1, 1, 100, 200)), stays(stay(0, 0, 3)), span(3, 6)},
		{free(3, aTown(0, 0, 0, 0), fair(0, 0, 2000, 2000), fair(0, 0, 2000, 2000), fair(0, 0, 2000, 2000)), stays(stay(0, 0, 1)), span(6000, 6000)},
		// from the day on which the rival comes
		{line(), stays(stay(0, 0, 2)), span(20, 20)},
		{line(), stays(stay(0, 0, 3)), span(25, 30)},
		{line(was(0, 2)), stays(stay(0, 0, 3)), span(25, 25)},
		{line(was(0, 3)), stays(stay(0, 0, 3)), span(25, 30)},
		{line(wasNot(0, 2)), stays(stay(0, 0, 3)), span(30, 30)},
		{line(), stays(stay(0, 0, 1), stay(1, 2, 2)), span(19, 29)},
		{line(was(1, 1)), stays(stay(0, 0, 1), stay(1, 2, 2)), span(19, 19)},
		{line(wasNot(1, 1)), stays(stay(0, 0, 1), stay(1, 2, 2)), span(19, 29)},
		{line(wasNot(1, 1), wasNot(1, 2)), stays(stay(0, 0, 1), stay(1, 2, 2)), span(24, 29)},
		{line(was(2, 3)), stays(stay(0, 0, 1), stay(1, 2, 2)), span(19, 29)},
		{line(was(1, 1), was(2, 2)), stays(stay(0, 0, 1), stay(1, 2, 2)), span(19, 19)},
		{line(was(2, 2)), stays(stay(0, 0, 1), stay(1, 2, 2)), span(19, 29)},
		{line(wasNot(1, 1), was(2, 2)), stays(stay(0, 0, 1), stay(1, 2, 2)), span(24, 29)},
		{from(line(), 2, 2), stays(stay(2, 0, 3)), span(15, 15)},
		{from(line(), 0, 0), stays(stay(1, 1, 1)), span(4, 9)},
		// it was not everywhere at once
		{eitherTown(), stays(stay(0, 0, 2)), span(15, 20)},
		{eitherTown(), stays(stay(1, 1, 3)), span(14, 29)},
		{eitherTown(), stays(stay(0, 0, 2), stay(1, 3, 1)), span(24, 29)},
		{eitherTown(wasNot(2, 1)), stays(stay(0, 0, 2), stay(1, 3, 1)), span(24, 24)},
		{eitherTown(wasNot(0, 1)), stays(stay(0, 0, 2), stay(1, 3, 1)), span(24, 29)},
	} {
		if got, e := tour.Earns(c.s, c.tour); got != c.want || e != api.OK {
			t.Errorf("%d: Earns = %v, %d, not %v", i, got, e, c.want)
		}
	}
}

// twoTowns is a season of so many days, and of two towns in which so much is taken on a day; the rival is far away.
func twoTowns(days, home, a, b, cost int) api.ToSeason {
	s := seasonOf(days, []api.ToTown{aTown(a, a, 0, 0), aTown(b, b, 0, 0), aTown(0, 0, 0, 0)}, road(0, 1, 1, cost))
	s.Home = home
	return s
}

// threeFairs is a season of four towns in which nothing is taken but at fairs, wherever the rival is.
func threeFairs() api.ToSeason {
	s := lineOf(10, 4, aTown(0, 0, 0, 100), 1, 0)
	s.Fairs = []api.ToFair{fair(1, 2, 10, 10), fair(2, 4, 10, 10), fair(3, 6, 10, 10)}
	return s
}

func TestP10_5Best(t *testing.T) {
	for i, c := range []struct {
		s     api.ToSeason
		tour  []api.ToStay
		least int
	}{
		{exampleS(), exampleA(), 475},
		{alone(5, aTown(10, 90, 3, 50)), stays(stay(0, 0, 3)), 6},
		{alone(2, aTown(10, 90, 3, 50)), stays(stay(0, 0, 2)), 4},
		{alone(1, aTown(10, 90, 3, 50)), stays(stay(0, 0, 1)), 2},
		{free(5, aTown(10, 90, 3, 50)), stays(stay(0, 0, 3)), 21},
		{free(5, aTown(0, 0, 5, 50), fair(0, 1, 20, 20)), stays(stay(0, 0, 2)), 10},
		// nothing is earned
		{alone(5, aTown(10, 90, 5, 50)), nil, 0},
		{alone(5, aTown(10, 90, 6, 50)), nil, 0},
		{twoTowns(4, 0, 0, 0, 0), nil, 0},
		{lineOf(4, 2, aTown(2000, 2000, 0, 100), 4, 0), stays(stay(0, 0, 3)), 6000},
		{from(lineOf(4, 2, aTown(2000, 2000, 2000, 100), 4, 0), 1, 1), nil, 0},
		// what can be taken at most does not matter
		{twoTowns(2, 0, 10, 30, 1), stays(stay(1, 1, 1)), 29},
		{changed(twoTowns(2, 0, 10, 30, 1), func(s *api.ToSeason) { s.Towns[1].Takes = span(20, 2000) }), stays(stay(0, 0, 2)), 20},
		// the first of several
		{free(5, aTown(0, 0, 0, 50), fair(0, 0, 20, 20)), stays(stay(0, 0, 1)), 20},
		{twoTowns(2, 0, 10, 20, 0), stays(stay(0, 0, 2)), 20},
		{twoTowns(2, 1, 20, 10, 0), stays(stay(0, 1, 1)), 20},
		{twoTowns(3, 0, 20, 10, 10), stays(stay(0, 0, 3)), 60},
		{twoTowns(4, 0, 10, 10, 0), stays(stay(0, 0, 1), stay(1, 2, 2)), 30},
		{twoTowns(4, 1, 10, 10, 0), stays(stay(0, 1, 3)), 30},
		{twoTowns(4, 0, 10, 10, 5), stays(stay(0, 0, 3)), 30},
		{twoTowns(5, 0, 10, 3, 3), stays(stay(0, 0, 3)), 30},
		{twoTowns(10, 0, 10, 10, 30), stays(stay(0, 0, 3)), 30},
		{twoTowns(10, 0, 10, 10, 29), stays(stay(0, 0, 3), stay(1, 4, 3)), 31},
		// first to where less is taken, later more, or the other way round
		{twoTowns(5, 0, 1, 10, 0), stays(stay(0, 0, 1), stay(1, 2, 3)), 31},
		{twoTowns(4, 0, 1, 10, 0), stays(stay(1, 1, 3)), 30},
		// to all fairs, and no longer than they are
		{threeFairs(), stays(stay(0, 0, 1), stay(1, 2, 1), stay(2, 4, 1), stay(3, 6, 1)), 30},
		// the rival comes
		{line(), stays(stay(0, 0, 3)), 25},
		{line(was(2, 2)), stays(stay(0, 0, 3)), 30},
		{line(wasNot(1, 1), was(2, 2)), stays(stay(0, 0, 3)), 30},
		{from(line(), 0, 0), stays(stay(0, 0, 3)), 15},
		{from(line(was(0, 3), wasNot(1, 2)), 0, 0), stays(stay(0, 0, 3)), 15},
		{from(line(was(0, 3), wasNot(1, 2), wasNot(1, 1)), 0, 0), stays(stay(1, 1, 3)), 29},
		{eitherTown(), stays(stay(0, 0, 2), stay(1, 3, 1)), 24},
		{eitherTown(was(0, 1)), stays(stay(0, 0, 1), stay(1, 2, 2)), 29},
	} {
		if got, n, e := tour.Best(c.s); !slices.Equal(got, c.tour) || n != c.least || e != api.OK {
			t.Errorf("%d: Best = %v, %d, %d, not %v, %d", i, got, n, e, c.tour, c.least)
		}
	}
}

func TestP10_6Against(t *testing.T) {
	inLeeds := func(days int) []int { return slices.Repeat([]int{1}, days) }
	for i, c := range []struct {
		s     api.ToSeason
		rival []int
		tour  []api.ToStay
		least int
		e     api.Errno
	}{
		{exampleS(), inLeeds(8), exampleA(), 745, api.OK},
		{line(), []int{2, 2, 2, 2}, stays(stay(0, 0, 3)), 30, api.OK},
		{line(), []int{2, 1, 0, 0}, stays(stay(0, 0, 3)), 25, api.OK},
		{line(), []int{2, 1, 1, 1}, stays(stay(0, 0, 3)), 30, api.OK},
		{from(line(), 0, 0), []int{0, 0, 0, 0}, stays(stay(1, 1, 3)), 29, api.OK},
		{from(line(), 0, 0), []int{0, 1, 0, 0}, stays(stay(0, 0, 3)), 15, api.OK},
		{from(line(), 0, 0), []int{0, 0, 1, 0}, stays(stay(1, 1, 3)), 19, api.OK},
		{from(line(), 0, 0), []int{0, 0, 0, 1}, stays(stay(1, 1, 3)), 24, api.OK},
		{alone(1, aTown(10, 10, 3, 50)), []int{0}, stays(stay(0, 0, 1)), 2, api.OK},
		{alone(1, aTown(10, 10, 5, 50)), []int{0}, nil, 0, api.OK},
		{lineOf(2, 2, aTown(0, 0, 0, 0), 4, 0), []int{1, 0}, nil, 0, api.OK},
		// how many
		{exampleS(), nil, nil, 0, api.ErrLong},
		{exampleS(), inLeeds(7), nil, 0, api.ErrLong},
		{exampleS(), inLeeds(9), nil, 0, api.ErrLong},
		{exampleS(), make([]int, 1000), nil, 0, api.ErrLong},
		{exampleS(), []int{-1, 9}, nil, 0, api.ErrLong},
		// which
		{line(), []int{2, 3, 2, 2}, nil, 0, api.ErrNone},
		{line(), []int{0, 0, 2, 3}, nil, 0, api.ErrNone},
		{line(), []int{2, 0, 2, -1}, nil, 0, api.ErrNone},
		{line(), []int{math.MinInt, 1, 1, 1}, nil, 0, api.ErrNone},
		{line(), []int{2, 1, 1, math.MaxInt}, nil, 0, api.ErrNone},
		// how it goes
		{line(), []int{1, 1, 1, 1}, nil, 0, api.ErrDown},
		{line(), []int{0, 1, 2, 2}, nil, 0, api.ErrDown},
		{line(), []int{2, 0, 0, 0}, nil, 0, api.ErrDown},
		{line(), []int{2, 1, 2, 0}, nil, 0, api.ErrDown},
		{line(was(1, 3)), []int{2, 2, 2, 0}, nil, 0, api.ErrDown},
		{torn(), []int{0, 0, 0, 0, 0, 0, 0, 0}, nil, 0, api.ErrDown},
		{free(2, aTown(0, 0, 0, 0)), []int{1, 0}, nil, 0, api.ErrDown},
		// what was heard
		{torn(), inLeeds(8), nil, 0, api.ErrArg},
		{exampleS(), []int{1, 0, 0, 0, 0, 0, 0, 0}, nil, 0, api.ErrArg},
		{line(was(1, 3)), []int{2, 2, 2, 2}, nil, 0, api.ErrArg},
		{line(wasNot(1, 3)), []int{2, 2, 2, 1}, nil, 0, api.ErrArg},
		{line(was(1, 3), wasNot(1, 2)), []int{2, 2, 1, 1}, nil, 0, api.ErrArg},
		{line(wasNot(2, 0)), []int{2, 2, 2, 2}, nil, 0, api.ErrArg},
		{line(was(1, 3), wasNot(1, 2)), []int{2, 1, 2, 1}, stays(stay(0, 0, 3)), 30, api.OK},
	} {
		if got, n, e := tour.Against(c.s, c.rival); !slices.Equal(got, c.tour) || n != c.least || e != c.e {
			t.Errorf("%d: Against = %v, %d, %d, not %v, %d, %d", i, got, n, e, c.tour, c.least, c.e)
		}
	}
}

func TestP10_7Spoilt(t *testing.T) {
	for i, c := range []struct {
		s         api.ToSeason
		tour      []api.ToStay
		must, may []int
	}{
		{exampleS(), exampleA(), nil, []int{0, 2}},
		{exampleS(), nil, nil, nil},
		{exampleS(), stays(stay(0, 0, 2)), nil, nil},
		{exampleS(), stays(stay(1, 1, 1), stay(0, 3, 1)), []int{1}, []int{0, 1}},
		{exampleS(), stays(stay(2, 2, 1), stay(1, 4, 1), stay(0, 6, 1)), []int{1}, []int{0, 1, 2}},
		{line(), stays(stay(0, 0, 2)), nil, nil},
		{line(), stays(stay(0, 0, 3)), nil, []int{0}},
		{line(was(0, 2)), stays(stay(0, 0, 2)), nil, nil},
		{line(was(0, 2)), stays(stay(0, 0, 3)), []int{0}, []int{0}},
		{line(), stays(stay(0, 0, 1), stay(1, 2, 2)), nil, []int{1}},
		{line(was(0, 3)), stays(stay(0, 0, 1), stay(1, 2, 2)), []int{1}, []int{1}},
		{line(was(0, 3)), stays(stay(1, 1, 1)), nil, []int{1}},
		{line(was(0, 3)), stays(stay(1, 1, 2)), []int{1}, []int{1}},
		{line(was(2, 3)), stays(stay(1, 1, 2)), nil, []int{1}},
		{line(wasNot(1, 1), was(2, 2)), stays(stay(1, 1, 2)), nil, nil},
		{line(wasNot(1, 1), was(2, 2)), stays(stay(1, 1, 3)), nil, []int{1}},
		{from(line(), 2, 2), stays(stay(2, 0, 1), stay(1, 2, 1)), []int{2}, []int{1, 2}},
		{eitherTown(), stays(stay(0, 0, 2), stay(1, 3, 1)), nil, []int{0, 1}},
		{eitherTown(wasNot(2, 1)), stays(stay(0, 0, 2), stay(1, 3, 1)), nil, []int{0, 1}},
		{eitherTown(was(0, 1)), stays(stay(0, 0, 2), stay(1, 3, 1)), []int{0}, []int{0}},
		{eitherTown(was(1, 1)), stays(stay(0, 0, 2), stay(1, 3, 1)), []int{1}, []int{1}},
		{eitherTown(was(1, 1)), stays(stay(1, 1, 1), stay(0, 3, 1)), []int{1}, []int{0, 1}},
		// by the last day of the stay, not later
		{eitherTown(was(1, 1), was(0, 2)), stays(stay(0, 0, 2)), nil, nil},
		{eitherTown(was(1, 1), was(0, 2)), stays(stay(0, 0, 3)), []int{0}, []int{0}},
	} {
		must, may, e := tour.Spoilt(c.s, c.tour)
		if !slices.Equal(must, c.must) || !slices.Equal(may, c.may) || e != api.OK {
			t.Errorf("%d: Spoilt = %v, %v, %d, not %v, %v", i, must, may, e, c.must, c.may)
		}
	}
}

// oddSeasons are S with something odd about it, in all that n can be.
func oddSeasons(n int) []api.ToSeason {
	many := max(0, min(n, 1001))
	var seasons []api.ToSeason
	for _, do := range []func(s *api.ToSeason){
		func(s *api.ToSeason) { s.Days = n },
		func(s *api.ToSeason) { s.Towns = make([]api.ToTown, many) },
		func(s *api.ToSeason) { s.Towns = s.Towns[:min(many, 3)] },
		func(s *api.ToSeason) { s.Towns[0].Name = strings.Repeat("a", many) },
		func(s *api.ToSeason) { s.Towns[1].Name = strings.Repeat("\xff", many) },
		func(s *api.ToSeason) { s.Towns[0].Takes.Lo = n },
		func(s *api.ToSeason) { s.Towns[0].Takes.Hi = n },
		func(s *api.ToSeason) { s.Towns[2].Rent = n },
		func(s *api.ToSeason) { s.Towns[1].After = n },
		func(s *api.ToSeason) { s.Roads = make([]api.ToRoad, many) },
		func(s *api.ToSeason) { s.Roads = s.Roads[:min(many, 3)] },
		func(s *api.ToSeason) { s.Roads[1].A = n },
		func(s *api.ToSeason) { s.Roads[1].B = n },
		func(s *api.ToSeason) { s.Roads[1].Long = n },
		func(s *api.ToSeason) { s.Roads[1].Cost = n },
		func(s *api.ToSeason) { s.Fairs = make([]api.ToFair, many) },
		func(s *api.ToSeason) { s.Fairs[0].Town = n },
		func(s *api.ToSeason) { s.Fairs[0].Day = n },
		func(s *api.ToSeason) { s.Fairs[0].More = span(n, n) },
		func(s *api.ToSeason) { s.Home = n },
		func(s *api.ToSeason) { s.Rival = n },
		func(s *api.ToSeason) { s.Seen = make([]api.ToSeen, many) },
		func(s *api.ToSeason) { s.Seen = append(s.Seen, was(n, n)) },
		func(s *api.ToSeason) { s.Seen = append(s.Seen, was(1, n)) },
	} {
		seasons = append(seasons, changed(exampleS(), do))
	}
	return seasons
}

func TestP10_16AnyArguments(t *testing.T) {
	seasons := []api.ToSeason{{}, exampleS(), torn(), {Days: 1, Towns: make([]api.ToTown, 1000), Roads: make([]api.ToRoad, 1000), Fairs: make([]api.ToFair, 1000), Seen: make([]api.ToSeen, 1000)}}
	for _, n := range []int{math.MinInt, -1, 0, 1, 2, 3, 4, 5, 7, 8, 10, 11, 100, 101, 2000, 2001, math.MaxInt} {
		seasons = append(seasons, oddSeasons(n)...)
	}
	for _, s := range seasons {
		before := fmt.Sprint(s)
		for _, n := range []int{math.MinInt, -1, 0, 2, 8, math.MaxInt} {
			list := stays(stay(0, 0, 1), stay(n, 2, 1), stay(1, n, n), stay(n, n, n))
			rival := append(slices.Repeat([]int{1}, 7), n)
			was := fmt.Sprint(list, rival)
			first, errors := callAll(s, n, n, list, rival)
			if again, _ := callAll(s, n, n, list, rival); again != first || len(errors) != 8 {
				t.Fatalf("%v, %d: %s, and then %s", s, n, first, again)
			}
			many := max(0, min(n, 1000))
			callAll(s, 0, n, list[:2], make([]int, many))
			callAll(s, n, 0, make([]api.ToStay, many), rival[:7])
			if fmt.Sprint(list, rival) != was {
				t.Fatalf("%s was modified: %v, %v", was, list, rival)
			}
		}
		if fmt.Sprint(s) != before {
			t.Errorf("%s was modified: %v", before, s)
		}
	}
}

func TestP10_16NewMemory(t *testing.T) {
	s := exampleS()
	// Arguments have room behind their end, which is not to be written to, either.
	s.Seen = append(make([]api.ToSeen, 0, 4), s.Seen...)
	list := append(make([]api.ToStay, 0, 5), exampleA()...)
	rival := append(make([]int, 0, 10), 1, 1, 1, 2, 2, 2, 2, 2)
	all := func() string { return fmt.Sprint(s, s.Seen[:4], list[:5], rival[:10]) }
	before := all()
	text, _ := callAll(s, 1, 2, list, rival)
	towns, _ := tour.Rival(s, 2)
	wrong, _ := tour.Wrong(torn())
	must, may, _ := tour.Spoilt(s, stays(stay(1, 1, 1), stay(0, 3, 1)))
	for i, result := range [][]int{towns, wrong, must, may} {
		if len(result) == 0 {
			t.Fatalf("%d: no result", i)
		}
		for at := range result {
			result[at] = 7
		}
		_ = append(result, 8, 8)
		for j, other := range [][]int{towns, wrong, must, may} {
			if j > i && slices.Contains(other, 7) {
				t.Errorf("%d and %d share memory", i, j)
			}
		}
	}
	best, _, _ := tour.Best(s)
	against, _, _ := tour.Against(s, rival)
	for _, result := range [][]api.ToStay{best, against} {
		for at := range result {
			result[at] = stay(7, 7, 7)
		}
		_ = append(result, stay(8, 8, 8), stay(8, 8, 8))
	}
	if again, _ := callAll(s, 1, 2, list, rival); again != text || all() != before {
		t.Error("a result shares memory with an argument, or is kept")
	}
}

func TestP10_16NilAndEmpty(t *testing.T) {
	empty := func(s api.ToSeason) api.ToSeason {
		return changed(s, func(s *api.ToSeason) {
			if len(s.Towns) == 0 {
				s.Towns = []api.ToTown{}
			}
			s.Roads, s.Fairs, s.Seen = []api.ToRoad{}, []api.ToFair{}, []api.ToSeen{}
		})
	}
	for i, s := range []api.ToSeason{{}, {Days: 1}, alone(2, aTown(10, 20, 1, 50)), free(2, aTown(10, 20, 1, 50))} {
		a, _ := callAll(s, 0, 0, nil, nil)
		if b, _ := callAll(empty(s), 0, 0, stays(), []int{}); a != b {
			t.Errorf("%d: %s, and %s", i, a, b)
		}
	}
}
