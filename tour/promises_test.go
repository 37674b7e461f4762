package tour_test

import (
	"cmp"
	"fmt"
	"math/rand"
	"slices"
	"testing"

	"ceroplast/api"
	"ceroplast/tour"
)

// The definitions, word by word.

func roadBetween(s api.ToSeason, a, b int) (api.ToRoad, bool) {
	i := slices.IndexFunc(s.Roads, func(r api.ToRoad) bool { return r.A == min(a, b) && r.B == max(a, b) })
	if i < 0 {
		return api.ToRoad{}, false
	}
	return s.Roads[i], true
}

// rivalsOf returns all tours of the rival, in order, whether they agree or not.
func rivalsOf(s api.ToSeason) [][]int {
	tours := [][]int{{s.Rival}}
	for range s.Days - 1 {
		var longer [][]int
		for _, list := range tours {
			for town := range s.Towns {
				last := list[len(list)-1]
				if _, is := roadBetween(s, last, town); is || last == town {
					longer = append(longer, append(slices.Clone(list), town))
				}
			}
		}
		tours = longer
	}
	return tours
}

// agrees reports whether a tour of the rival agrees with all that was heard.
func agrees(rival []int, seen []api.ToSeen) bool {
	for _, x := range seen {
		if (rival[x.Day] == x.Town) != x.Was {
			return false
		}
	}
	return true
}

// those returns the tours of the rival that agree.
func those(rivals [][]int, seen []api.ToSeen) [][]int {
	var some [][]int
	for _, rival := range rivals {
		if agrees(rival, seen) {
			some = append(some, rival)
		}
	}
	return some
}

// wasIn reports whether the rival was in a town on a day, or on one before.
func wasIn(rival []int, town, day int) bool { return slices.Contains(rival[:day+1], town) }

// canFollow reports whether a stay can be behind others.
func canFollow(s api.ToSeason, before []api.ToStay, x api.ToStay) bool {
	if slices.ContainsFunc(before, func(other api.ToStay) bool { return other.Town == x.Town }) || x.Day+x.Stay > s.Days {
		return false
	}
	if len(before) == 0 && x.Town == s.Home {
		return x.Day == 0
	}
	from, ended := s.Home, 0
	if len(before) > 0 {
		last := before[len(before)-1]
		from, ended = last.Town, last.Day+last.Stay
	}
	r, is := roadBetween(s, from, x.Town)
	return is && x.Day == ended+r.Long
}

// toursOf returns all tours, in no order.
func toursOf(s api.ToSeason) [][]api.ToStay {
	tours := [][]api.ToStay{nil}
	for i := 0; i < len(tours); i++ {
		for town := range s.Towns {
			for day := range s.Days {
				for days := 1; days <= 3; days++ {
					if x := stay(town, day, days); canFollow(s, tours[i], x) {
						tours = append(tours, append(slices.Clone(tours[i]), x))
					}
				}
			}
		}
	}
	return tours
}

func compareTours(a, b []api.ToStay) int {
	return slices.CompareFunc(a, b, func(x, y api.ToStay) int {
		return cmp.Or(cmp.Compare(x.Town, y.Town), cmp.Compare(x.Stay, y.Stay))
	})
}

// costsOf returns what rents and roads of a tour cost.
func costsOf(s api.ToSeason, list []api.ToStay) int {
	pence, from := 0, s.Home
	for _, x := range list {
		r, _ := roadBetween(s, from, x.Town)
		pence += r.Cost + x.Stay*s.Towns[x.Town].Rent
		from = x.Town
	}
	return pence
}

// truth is a tour of the rival, what each town takes on each day, and how much more is taken at each fair.
type truth struct {
	rival []int
	takes [][]int
	more  []int
}

// takenOn returns what is taken on a day of a stay in a town.
func (k truth) takenOn(s api.ToSeason, town, day int) int {
	all := k.takes[day][town]
	for i, f := range s.Fairs {
		if f.Town == town && f.Day == day {
			all += k.more[i]
		}
	}
	if wasIn(k.rival, town, day) {
		return all * s.Towns[town].After / 100
	}
	return all
}

func (k truth) earns(s api.ToSeason, list []api.ToStay) int {
	pence := -costsOf(s, list)
	for _, x := range list {
		for day := x.Day; day < x.Day+x.Stay; day++ {
			pence += k.takenOn(s, x.Town, day)
		}
	}
	return pence
}

// within returns a number of a span.
func within(r *rand.Rand, s api.Span) int { return s.Lo + r.Intn(s.Hi-s.Lo+1) }

// aTruth is a truth by which the rival goes so, with numbers of the spans, mostly at one of their ends.
func aTruth(r *rand.Rand, s api.ToSeason, rival []int) truth {
	way := r.Intn(4)
	number := func(s api.Span) int {
		switch way {
		case 0:
			return s.Lo
		case 1:
			return s.Hi
		}
		return within(r, s)
	}
	k := truth{rival: rival}
	for range s.Days {
		var takes []int
		for _, t := range s.Towns {
			takes = append(takes, number(t.Takes))
		}
		k.takes = append(k.takes, takes)
	}
	for _, f := range s.Fairs {
		k.more = append(k.more, number(f.More))
	}
	return k
}

// numbersOf returns all that can be taken in a town on a day, fairs included, if the rival never was there.
func numbersOf(s api.ToSeason, town, day int) []int {
	var numbers []int
	for n := s.Towns[town].Takes.Lo; n <= s.Towns[town].Takes.Hi; n++ {
		numbers = append(numbers, n)
	}
	for _, f := range s.Fairs {
		if f.Town != town || f.Day != day {
			continue
		}
		var more []int
		for _, n := range numbers {
			for m := f.More.Lo; m <= f.More.Hi; m++ {
				more = append(more, n+m)
			}
		}
		numbers = more
	}
	return numbers
}

// place is a town on a day, and whether the rival was there.
type place struct {
	town, day int
	was       bool
}

// reference is what all truths, and all tours, say of a season.
type reference struct {
	s      api.ToSeason
	all    [][]int // tours of the rival
	rivals [][]int // those that agree
	tours  [][]api.ToStay
	sold   map[place]api.Span
}

func referenceOf(s api.ToSeason) reference {
	k := reference{s: s, all: rivalsOf(s), tours: toursOf(s), sold: map[place]api.Span{}}
	k.rivals = those(k.all, s.Seen)
	for town, t := range s.Towns {
		for day := range s.Days {
			numbers := numbersOf(s, town, day)
			k.sold[place{town, day, false}] = span(slices.Min(numbers), slices.Max(numbers))
			for i := range numbers {
				numbers[i] = numbers[i] * t.After / 100
			}
			k.sold[place{town, day, true}] = span(slices.Min(numbers), slices.Max(numbers))
		}
	}
	return k
}

// against returns what a tour earns if the rival goes so.
func (k reference) against(list []api.ToStay, rival []int) api.Span {
	pence := costsOf(k.s, list)
	earns := span(-pence, -pence)
	for _, x := range list {
		for day := x.Day; day < x.Day+x.Stay; day++ {
			sold := k.sold[place{x.Town, day, wasIn(rival, x.Town, day)}]
			earns = span(earns.Lo+sold.Lo, earns.Hi+sold.Hi)
		}
	}
	return earns
}

// earns returns what a tour earns if the rival goes in one of these ways.
func (k reference) earns(list []api.ToStay, rivals [][]int) api.Span {
	earns := k.against(list, rivals[0])
	for _, rival := range rivals[1:] {
		other := k.against(list, rival)
		earns = span(min(earns.Lo, other.Lo), max(earns.Hi, other.Hi))
	}
	return earns
}

// best returns the best tour if the rival goes in one of these ways, what it earns at least, and how many earn as much.
func (k reference) best(rivals [][]int) (best []api.ToStay, least, many int) {
	for i, list := range k.tours {
		n := k.earns(list, rivals).Lo
		if i > 0 && n == least {
			many++
		}
		if i == 0 || n > least {
			many = 1
		}
		if i == 0 || n > least || n == least && compareTours(list, best) < 0 {
			best, least = list, n
		}
	}
	return best, least, many
}

// came returns in how many ways the rival was in a town by a day.
func (k reference) came(town, day int) int {
	many := 0
	for _, rival := range k.rivals {
		if wasIn(rival, town, day) {
			many++
		}
	}
	return many
}

// listsOf returns all lists of some of the numbers below many, ascending.
func listsOf(many int) [][]int {
	lists := [][]int{nil}
	for n := range many {
		for _, list := range slices.Clone(lists) {
			lists = append(lists, append(slices.Clone(list), n))
		}
	}
	return lists
}

// without is what was heard without some things.
func without(seen []api.ToSeen, out []int) []api.ToSeen {
	var rest []api.ToSeen
	for i, x := range seen {
		if !slices.Contains(out, i) {
			rest = append(rest, x)
		}
	}
	return rest
}

func compareLists(a, b []int) int { return cmp.Or(cmp.Compare(len(a), len(b)), slices.Compare(a, b)) }

// wrong returns the fewest things heard without which a tour of the rival agrees.
func (k reference) wrong() []int {
	var able [][]int
	for _, out := range listsOf(len(k.s.Seen)) {
		if len(those(k.all, without(k.s.Seen, out))) > 0 {
			able = append(able, out)
		}
	}
	return slices.MinFunc(able, compareLists)
}

// few is a number up to most, mostly a small one.
func few(r *rand.Rand, small, most int) int {
	if r.Intn(15) == 0 {
		return r.Intn(most + 1)
	}
	return r.Intn(small + 1)
}

// narrow is a span that is not wide, and mostly of small numbers.
func narrow(r *rand.Rand, small int) api.Span {
	lo := few(r, small, api.MaxToPence)
	return span(lo, min(lo+r.Intn(4), api.MaxToPence))
}

// sized is a season of so many days and towns, in which nothing was heard, and where there is a road between as many of 10 pairs of towns.
func sized(r *rand.Rand, days, towns, roads int) api.ToSeason {
	var list []api.ToTown
	for range towns {
		t := api.ToTown{Takes: narrow(r, 14), Rent: few(r, 5, 20), After: []int{0, 25, 33, 50, 75, 100, r.Intn(101)}[r.Intn(7)]}
		list = append(list, t)
	}
	s := seasonOf(days, list)
	for b := range towns {
		for a := range b {
			if r.Intn(10) < roads {
				s.Roads = append(s.Roads, road(a, b, 1+few(r, 1, 3), few(r, 4, 20)))
			}
		}
	}
	r.Shuffle(len(s.Roads), func(i, j int) { s.Roads[i], s.Roads[j] = s.Roads[j], s.Roads[i] })
	for range r.Intn(api.MaxToFairs + 1) {
		s.Fairs = append(s.Fairs, api.ToFair{Town: r.Intn(towns), Day: r.Intn(days), More: narrow(r, 20)})
	}
	return from(s, r.Intn(towns), r.Intn(towns))
}

// someTour is a tour of the rival.
func someTour(r *rand.Rand, s api.ToSeason) []int {
	rivals := rivalsOf(s)
	return rivals[r.Intn(len(rivals))]
}

// somethingSeen is something that can have been heard, or, if that is so, is true if the rival goes so.
func somethingSeen(r *rand.Rand, s api.ToSeason, rival []int, isTrue bool) api.ToSeen {
	x := api.ToSeen{Town: r.Intn(len(s.Towns)), Day: r.Intn(s.Days), Was: r.Intn(2) == 0}
	if isTrue {
		x.Was = rival[x.Day] == x.Town
	}
	return x
}

// listening is a season in which up to so many things were heard that some tour of the rival agrees with; the tour is returned, too.
func listening(r *rand.Rand, s api.ToSeason, most int) (api.ToSeason, []int) {
	rival := someTour(r, s)
	s.Seen = nil
	for range r.Intn(most + 1) {
		s.Seen = append(s.Seen, somethingSeen(r, s, rival, true))
	}
	return s, rival
}

// rich is a season in which it is worth to go to several towns: roads are short, and hardly anything costs much.
func rich(r *rand.Rand, days int) api.ToSeason {
	s := sized(r, days, 3, 9)
	for i := range s.Towns {
		lo := 6 + r.Intn(8)
		s.Towns[i].Takes, s.Towns[i].Rent = span(lo, lo+r.Intn(3)), r.Intn(2)
	}
	for i := range s.Roads {
		s.Roads[i].Long, s.Roads[i].Cost = 1, r.Intn(3)
	}
	return s
}

// aSeason is a season that is not large.
func aSeason(r *rand.Rand) api.ToSeason {
	switch r.Intn(6) {
	case 0:
		return sized(r, 1+r.Intn(4), 1+r.Intn(2), 8)
	case 1:
		return sized(r, 2+r.Intn(3), 4, 5)
	case 2:
		return rich(r, 5)
	}
	return sized(r, 3+r.Intn(3), 3, 8)
}

// possible is a season that is not large, in which a tour of the rival agrees with all that was heard.
func possible(r *rand.Rand) api.ToSeason {
	s, _ := listening(r, aSeason(r), api.MaxToSeen)
	return s
}

// mixed is a season that is not large, in which what was heard is perhaps not true.
func mixed(r *rand.Rand) api.ToSeason {
	s, rival := listening(r, aSeason(r), api.MaxToSeen)
	if r.Intn(3) == 0 {
		for i := range s.Seen {
			s.Seen[i] = somethingSeen(r, s, rival, false)
		}
	}
	return s
}

// met counts of how many seasons something interesting is so.
type met map[string]int

func (m met) add(what string, is bool) {
	if is {
		m[what]++
	}
}

// atLeast checks that nothing of these was met fewer times than that.
func (m met) atLeast(t *testing.T, least int, what ...string) {
	t.Helper()
	for _, w := range what {
		if m[w] < least {
			t.Errorf("%s only %d times: %v", w, m[w], m)
		}
	}
}

// checkRival checks what Rival, Came and Wrong say.
func checkRival(t *testing.T, k reference, m met) {
	t.Helper()
	for day := range k.s.Days {
		var towns []int
		for _, rival := range k.rivals {
			towns = append(towns, rival[day])
		}
		slices.Sort(towns)
		towns = slices.Compact(towns)
		isZero := api.OK
		if len(k.rivals) == 0 {
			isZero = api.ErrZero
		}
		if got, e := tour.Rival(k.s, day); !slices.Equal(got, towns) || e != isZero {
			t.Fatalf("%v: Rival on %d = %v, %d, not %v", k.s, day, got, e, towns)
		}
		for town := range k.s.Towns {
			want, many := api.ToMay, k.came(town, day)
			switch {
			case len(k.rivals) == 0:
				want = 0
			case many == len(k.rivals):
				want = api.ToSure
			case many == 0:
				want = api.ToNever
			}
			if got, e := tour.Came(k.s, town, day); got != want || e != isZero {
				t.Fatalf("%v: Came of %d up to %d = %d, %d, not %d", k.s, town, day, got, e, want)
			}
			m.add(fmt.Sprint("came ", want), isZero == api.OK)
		}
	}
	want := k.wrong()
	if got, e := tour.Wrong(k.s); !slices.Equal(got, want) || e != api.OK {
		t.Fatalf("%v: Wrong = %v, %d, not %v", k.s, got, e, want)
	}
	m.add(fmt.Sprint(len(want), " wrong"), true)
	m.add("not the first wrong", len(want) > 0 && want[len(want)-1] != len(want)-1)
}

// spoiltOf returns the towns of a tour in which the rival was by all, or by some of its tours.
func spoiltOf(k reference, list []api.ToStay) (must, may []int) {
	for _, x := range list {
		many := k.came(x.Town, x.Day+x.Stay-1)
		if many == len(k.rivals) {
			must = append(must, x.Town)
		}
		if many > 0 {
			may = append(may, x.Town)
		}
	}
	slices.Sort(must)
	slices.Sort(may)
	return must, may
}

// checkTours checks what Costs, Earns and Spoilt say of all tours.
func checkTours(t *testing.T, k reference, m met) {
	t.Helper()
	for _, list := range k.tours {
		ended := 0
		for _, x := range list {
			ended = x.Day + x.Stay
		}
		if day, pence, e := tour.Costs(k.s, list); day != ended || pence != costsOf(k.s, list) || e != api.OK {
			t.Fatalf("%v: Costs of %v = %d, %d, %d", k.s, list, day, pence, e)
		}
		earns, e := tour.Earns(k.s, list)
		must, may, f := tour.Spoilt(k.s, list)
		if len(k.rivals) == 0 {
			if earns != span(0, 0) || e != api.ErrZero || len(must)+len(may) > 0 || f != api.ErrZero {
				t.Fatalf("%v: Earns of %v = %v, %d, Spoilt = %v, %v, %d", k.s, list, earns, e, must, may, f)
			}
			continue
		}
		if want := k.earns(list, k.rivals); earns != want || e != api.OK {
			t.Fatalf("%v: Earns of %v = %v, %d, not %v", k.s, list, earns, e, want)
		}
		wantMust, wantMay := spoiltOf(k, list)
		if !slices.Equal(must, wantMust) || !slices.Equal(may, wantMay) || f != api.OK {
			t.Fatalf("%v: Spoilt of %v = %v, %v, %d, not %v, %v", k.s, list, must, may, f, wantMust, wantMay)
		}
		m.add("not everywhere at once", earns.Lo > k.spoiltAll(list))
		m.add("not surely anywhere", len(must) == 0 && len(may) > 1)
	}
}

// spoiltAll returns what a tour would earn at least if the rival came to each town as early as it can.
func (k reference) spoiltAll(list []api.ToStay) int {
	pence := -costsOf(k.s, list)
	for _, x := range list {
		for day := x.Day; day < x.Day+x.Stay; day++ {
			pence += k.sold[place{x.Town, day, k.came(x.Town, day) > 0}].Lo
		}
	}
	return pence
}

// checkBest checks what Best and Against say.
func checkBest(t *testing.T, k reference, m met) {
	t.Helper()
	best, least, e := tour.Best(k.s)
	if len(k.rivals) == 0 {
		if len(best) > 0 || least != 0 || e != api.ErrZero {
			t.Fatalf("%v: Best = %v, %d, %d", k.s, best, least, e)
		}
	} else if want, n, many := k.best(k.rivals); !slices.Equal(best, want) || least != n || e != api.OK {
		t.Fatalf("%v: Best = %v, %d, %d, not %v, %d", k.s, best, least, e, want, n)
	} else {
		m.add(fmt.Sprint("best of ", len(want)), true)
		m.add("several best", many > 1 && n > 0)
	}
	for i, rival := range k.all {
		// Each is as good an example as any other one, but they are many.
		if i%(1+len(k.all)/4) != 0 {
			continue
		}
		best, least, e := tour.Against(k.s, rival)
		if !agrees(rival, k.s.Seen) {
			if len(best) > 0 || least != 0 || e != api.ErrArg {
				t.Fatalf("%v: Against %v = %v, %d, %d", k.s, rival, best, least, e)
			}
		} else if want, n, _ := k.best([][]int{rival}); !slices.Equal(best, want) || least != n || e != api.OK {
			t.Fatalf("%v: Against %v = %v, %d, %d, not %v, %d", k.s, rival, best, least, e, want, n)
		}
		m.add(fmt.Sprint("against ", e), true)
	}
}

func TestP10_2ToP10_7AgainstTheDefinition(t *testing.T) {
	r := rand.New(rand.NewSource(1002))
	m := met{}
	for range 2500 {
		k := referenceOf(mixed(r))
		checkRival(t, k, m)
		checkTours(t, k, m)
		checkBest(t, k, m)
		m.add("impossible", len(k.rivals) == 0)
		m.add("known", len(k.rivals) == 1)
		m.add("possible", len(k.rivals) > 1)
	}
	m.atLeast(t, 100, "impossible", "known", "possible", "came 0", "came 1", "came 2", "1 wrong", "not the first wrong", "best of 0", "best of 1", "best of 2", "several best", "against 0", "against 2", "not surely anywhere")
	m.atLeast(t, 10, "2 wrong", "3 wrong")
}

// TestP10_2ToP10_7RichSeasons is of tours to several towns, of which the rival can be in some only.
func TestP10_2ToP10_7RichSeasons(t *testing.T) {
	r := rand.New(rand.NewSource(10020))
	m := met{}
	for range 500 {
		s, rival := listening(r, rich(r, 6+r.Intn(2)), 0)
		for range api.MaxToSeen {
			if x := somethingSeen(r, s, rival, true); !x.Was {
				s.Seen = append(s.Seen, x)
			}
		}
		k := referenceOf(s)
		checkTours(t, k, m)
		checkBest(t, k, m)
	}
	m.atLeast(t, 25, "not everywhere at once", "best of 1", "best of 2", "best of 3", "several best")
}

// TestP10_2ToP10_7LargeSeasons is of as many days and towns as there can be.
func TestP10_2ToP10_7LargeSeasons(t *testing.T) {
	r := rand.New(rand.NewSource(10021))
	m := met{}
	for range 12 {
		s := sized(r, api.MaxToDays, api.MaxToTowns, 0)
		order := r.Perm(api.MaxToTowns)
		for i := range api.MaxToTowns - 1 {
			s.Roads = append(s.Roads, road(min(order[i], order[i+1]), max(order[i], order[i+1]), 1+few(r, 0, 3), r.Intn(5)))
		}
		s, _ = listening(r, s, 3)
		k := referenceOf(s)
		checkRival(t, k, m)
		checkBest(t, k, m)
	}
	m.atLeast(t, 1, "best of 2", "best of 3")
}

// TestP10_2ToP10_7AllRoads is of all roads that there can be.
func TestP10_2ToP10_7AllRoads(t *testing.T) {
	r := rand.New(rand.NewSource(10022))
	m := met{}
	for range 30 {
		s, _ := listening(r, sized(r, 5, api.MaxToTowns, 10), api.MaxToSeen)
		k := referenceOf(s)
		checkRival(t, k, m)
		checkTours(t, k, m)
		checkBest(t, k, m)
	}
	m.atLeast(t, 5, "best of 2")
}

// TestErrorsOfAnyTours is of tours that were spoilt here and there.
func TestErrorsOfAnyTours(t *testing.T) {
	r := rand.New(rand.NewSource(10041))
	m := met{}
	for range 6000 {
		s := possible(r)
		tours := toursOf(s)
		list := slices.Clone(tours[r.Intn(len(tours))])
		for range 1 + r.Intn(2) {
			if len(list) < 3 && r.Intn(3) == 0 {
				list = append(list, stay(r.Intn(len(s.Towns)), r.Intn(s.Days), 1+r.Intn(3)))
			}
			if len(list) > 0 {
				x := &list[r.Intn(len(list))]
				*[]*int{&x.Town, &x.Day, &x.Stay}[r.Intn(3)] += r.Intn(3) - 1
			}
		}
		want := errorOf(s, list)
		_, _, e := tour.Costs(s, list)
		_, f := tour.Earns(s, list)
		_, _, g := tour.Spoilt(s, list)
		if e != want || f != want || g != want {
			t.Fatalf("%v: %v: %d, %d, %d, not %d", s, list, e, f, g, want)
		}
		isTour := slices.ContainsFunc(tours, func(other []api.ToStay) bool { return slices.Equal(other, list) })
		if isTour != (want == api.OK) {
			t.Fatalf("%v: %v: %d, %t", s, list, want, isTour)
		}
		m.add(fmt.Sprint("error ", want), true)
	}
	m.atLeast(t, 50, "error 0", "error 2", "error 3", "error 4", "error 5", "error 7", "error 9")
}

// errorOf returns the error of a tour.
func errorOf(s api.ToSeason, list []api.ToStay) api.Errno {
	from, ended := s.Home, 0
	for i, x := range list {
		begins := ended
		r, is := roadBetween(s, from, x.Town)
		if i > 0 || x.Town != from {
			begins += r.Long
		}
		for _, y := range list[:i] {
			if y.Town == x.Town {
				return api.ErrTwice
			}
		}
		switch {
		case x.Town < 0 || x.Town >= len(s.Towns):
			return api.ErrNone
		case x.Stay < 1 || x.Stay > 3:
			return api.ErrRange
		case !is && x.Town != from:
			return api.ErrDown
		case x.Day != begins:
			return api.ErrArg
		case x.Day+x.Stay > s.Days:
			return api.ErrLong
		}
		from, ended = x.Town, x.Day+x.Stay
	}
	return api.OK
}

func TestP10_8WhereTheRivalWas(t *testing.T) {
	r := rand.New(rand.NewSource(1008))
	for range 3000 {
		s, rival := listening(r, aSeason(r), api.MaxToSeen)
		for day, town := range rival {
			if l, e := tour.Rival(s, day); !slices.Contains(l, town) || !slices.IsSorted(l) || e != api.OK {
				t.Fatalf("%v: %v: Rival on %d = %v, %d", s, rival, day, l, e)
			}
			for town := range s.Towns {
				came, e := tour.Came(s, town, day)
				was := wasIn(rival, town, day)
				if came == api.ToNever && was || came == api.ToSure && !was || e != api.OK {
					t.Fatalf("%v: %v: Came of %d up to %d = %d, %d", s, rival, town, day, came, e)
				}
			}
		}
		if wrong, e := tour.Wrong(s); len(wrong) > 0 || e != api.OK {
			t.Fatalf("%v: %v: Wrong = %v, %d", s, rival, wrong, e)
		}
	}
}

// wide is a season with spans of any width.
func wide(r *rand.Rand, s api.ToSeason) api.ToSeason {
	anySpan := func() api.Span {
		lo := r.Intn(api.MaxToPence + 1)
		return span(lo, lo+r.Intn(api.MaxToPence+1-lo))
	}
	return changed(s, func(s *api.ToSeason) {
		for i := range s.Towns {
			s.Towns[i].Takes = anySpan()
			s.Towns[i].Rent = r.Intn(500)
		}
		for i := range s.Fairs {
			s.Fairs[i].More = anySpan()
		}
	})
}

func TestP10_9Surely(t *testing.T) {
	r := rand.New(rand.NewSource(1009))
	m := met{}
	for range 1500 {
		s, rival := listening(r, aSeason(r), api.MaxToSeen)
		if r.Intn(2) == 0 {
			s = wide(r, s)
		}
		tours := toursOf(s)
		for range 20 {
			k, list := aTruth(r, s, rival), tours[r.Intn(len(tours))]
			earns, e := tour.Earns(s, list)
			n := k.earns(s, list)
			if n < earns.Lo || n > earns.Hi || e != api.OK {
				t.Fatalf("%v: Earns of %v = %v, %d, but %d in %v", s, list, earns, e, n, k)
			}
			m.add("the least", n == earns.Lo && n < earns.Hi)
			m.add("the greatest", n == earns.Hi && n > earns.Lo)
			m.add("between", n < earns.Hi && n > earns.Lo)
		}
	}
	m.atLeast(t, 1000, "the least", "the greatest", "between")
}

func TestP10_10TheBest(t *testing.T) {
	r := rand.New(rand.NewSource(1010))
	m := met{}
	for range 800 {
		s, rival := listening(r, aSeason(r), api.MaxToSeen)
		best, least, e := tour.Best(s)
		if e != api.OK {
			t.Fatalf("%v: Best = %v, %d, %d", s, best, least, e)
		}
		if earns, e := tour.Earns(s, best); earns.Lo != least || e != api.OK {
			t.Fatalf("%v: Best = %v, %d, but Earns = %v, %d", s, best, least, earns, e)
		}
		if n := aTruth(r, s, rival).earns(s, best); n < least {
			t.Fatalf("%v: Best = %v, %d, but it earns %d", s, best, least, n)
		}
		for _, list := range toursOf(s) {
			earns, e := tour.Earns(s, list)
			if e != api.OK || earns.Lo > least || earns.Lo == least && compareTours(list, best) < 0 {
				t.Fatalf("%v: Best = %v, %d, but Earns of %v = %v, %d", s, best, least, list, earns, e)
			}
			m.add("as much", earns.Lo == least && !slices.Equal(list, best))
			m.add("more, perhaps", earns.Lo < least && earns.Hi > least)
		}
	}
	m.atLeast(t, 100, "as much", "more, perhaps")
}

// pinned is a season of which it was heard where the rival is on each day behind the first one.
func pinned(s api.ToSeason, rival []int) api.ToSeason {
	s.Seen = nil
	for day, town := range rival[1:] {
		s.Seen = append(s.Seen, was(town, day+1))
	}
	return s
}

func TestP10_11Known(t *testing.T) {
	r := rand.New(rand.NewSource(1011))
	m := met{}
	for range 600 {
		s := possible(r)
		_, least, _ := tour.Best(s)
		tours := toursOf(s)
		rivals := those(rivalsOf(s), s.Seen)
		for range 8 {
			rival := rivals[r.Intn(len(rivals))]
			best, n, e := tour.Against(s, rival)
			if n < least || e != api.OK {
				t.Fatalf("%v: Best earns %d, but Against %v = %v, %d, %d", s, least, rival, best, n, e)
			}
			m.add("more", n > least)
			same, as, e := tour.Best(pinned(s, rival))
			if !slices.Equal(same, best) || as != n || e != api.OK {
				t.Fatalf("%v: Against %v = %v, %d, but Best = %v, %d, %d", s, rival, best, n, same, as, e)
			}
			list := tours[r.Intn(len(tours))]
			if earns, e := tour.Earns(pinned(s, rival), list); earns.Lo > n || e != api.OK {
				t.Fatalf("%v: Against %v = %v, %d, but Earns of %v = %v, %d", s, rival, best, n, list, earns, e)
			}
		}
	}
	m.atLeast(t, 100, "more")
}

func TestP10_12Wrong(t *testing.T) {
	r := rand.New(rand.NewSource(1012))
	m := met{}
	for range 4000 {
		s := aSeason(r)
		for range r.Intn(api.MaxToSeen + 1) {
			s.Seen = append(s.Seen, somethingSeen(r, s, nil, false))
		}
		wrong, e := tour.Wrong(s)
		if e != api.OK || !slices.IsSorted(wrong) {
			t.Fatalf("%v: Wrong = %v, %d", s, wrong, e)
		}
		if _, e := tour.Rival(heard(s, without(s.Seen, wrong)...), 0); e != api.OK {
			t.Fatalf("%v: Wrong = %v, but without them Rival: %d", s, wrong, e)
		}
		for _, list := range listsOf(len(s.Seen)) {
			if _, e := tour.Rival(heard(s, without(s.Seen, list)...), 0); compareLists(list, wrong) < 0 && e != api.ErrZero {
				t.Fatalf("%v: Wrong = %v, but without %v Rival: %d", s, wrong, list, e)
			}
		}
		_, e = tour.Came(s, 0, 0)
		if (e == api.OK) != (len(wrong) == 0) {
			t.Fatalf("%v: Wrong = %v, but Came: %d", s, wrong, e)
		}
		m.add(fmt.Sprint(len(wrong)), true)
	}
	m.atLeast(t, 50, "0", "1", "2")
}

// contains reports whether all numbers are in a list.
func contains(list, numbers []int) bool {
	return !slices.ContainsFunc(numbers, func(n int) bool { return !slices.Contains(list, n) })
}

func TestP10_13OneMore(t *testing.T) {
	r := rand.New(rand.NewSource(1013))
	m := met{}
	for range 1500 {
		s, rival := listening(r, aSeason(r), api.MaxToSeen-1)
		more := heard(s, slices.Insert(slices.Clone(s.Seen), r.Intn(len(s.Seen)+1), somethingSeen(r, s, rival, true))...)
		for day := range s.Days {
			towns, _ := tour.Rival(s, day)
			if then, e := tour.Rival(more, day); !contains(towns, then) || e != api.OK {
				t.Fatalf("%v: Rival on %d = %v, but with %v %v, %d", s, day, towns, more.Seen, then, e)
			} else {
				m.add("fewer towns", len(then) < len(towns))
			}
			for town := range s.Towns {
				came, _ := tour.Came(s, town, day)
				then, e := tour.Came(more, town, day)
				if came != api.ToMay && then != came || e != api.OK {
					t.Fatalf("%v: Came of %d up to %d = %d, but with %v %d, %d", s, town, day, came, more.Seen, then, e)
				}
				m.add("sure", came == api.ToMay && then == api.ToSure)
			}
		}
		_, least, _ := tour.Best(s)
		if best, then, e := tour.Best(more); then < least || e != api.OK {
			t.Fatalf("%v: Best earns %d, but with %v %v, %d, %d", s, least, more.Seen, best, then, e)
		} else {
			m.add("more is earned", then > least)
		}
		for _, list := range toursOf(s) {
			earns, _ := tour.Earns(s, list)
			then, e := tour.Earns(more, list)
			if then.Lo < earns.Lo || then.Hi > earns.Hi || e != api.OK {
				t.Fatalf("%v: Earns of %v = %v, but with %v %v, %d", s, list, earns, more.Seen, then, e)
			}
			m.add("not as wide", then != earns)
		}
	}
	m.atLeast(t, 50, "fewer towns", "sure", "more is earned", "not as wide")
}

func TestP10_14Costs(t *testing.T) {
	r := rand.New(rand.NewSource(1014))
	for range 600 {
		s := possible(r)
		for _, list := range toursOf(s) {
			day, pence, e := tour.Costs(s, list)
			if e != api.OK || day > s.Days {
				t.Fatalf("%v: Costs of %v = %d, %d, %d", s, list, day, pence, e)
			}
			if len(list) > 0 {
				if ended, less, e := tour.Costs(s, list[:len(list)-1]); less > pence || ended >= day || e != api.OK {
					t.Fatalf("%v: Costs of %v = %d, %d, but without the last one %d, %d, %d", s, list, day, pence, ended, less, e)
				}
			}
			all := 0
			for _, x := range list {
				for day := x.Day; day < x.Day+x.Stay; day++ {
					all += slices.Max(numbersOf(s, x.Town, day))
				}
			}
			if earns, e := tour.Earns(s, list); earns.Hi+pence > all || earns.Lo > earns.Hi || e != api.OK {
				t.Fatalf("%v: Costs of %v = %d, Earns = %v, %d, but at most %d is taken", s, list, pence, earns, e, all)
			}
		}
	}
}

func TestP10_15Spoilt(t *testing.T) {
	r := rand.New(rand.NewSource(1015))
	m := met{}
	for range 800 {
		s := possible(r)
		for _, list := range toursOf(s) {
			must, may, e := tour.Spoilt(s, list)
			if !contains(may, must) || !slices.IsSorted(must) || !slices.IsSorted(may) || e != api.OK {
				t.Fatalf("%v: Spoilt of %v = %v, %v, %d", s, list, must, may, e)
			}
			towns := []int{}
			for _, x := range list {
				towns = append(towns, x.Town)
				came, e := tour.Came(s, x.Town, x.Day+x.Stay-1)
				if slices.Contains(must, x.Town) != (came == api.ToSure) || slices.Contains(may, x.Town) != (came != api.ToNever) || e != api.OK {
					t.Fatalf("%v: Spoilt of %v = %v, %v, but Came of %v = %d, %d", s, list, must, may, x, came, e)
				}
				m.add(fmt.Sprint(came), true)
			}
			if !contains(towns, may) {
				t.Fatalf("%v: Spoilt of %v = %v, %v", s, list, must, may)
			}
		}
	}
	m.atLeast(t, 100, fmt.Sprint(api.ToMay), fmt.Sprint(api.ToSure), fmt.Sprint(api.ToNever))
}

func TestP10_16NotModified(t *testing.T) {
	r := rand.New(rand.NewSource(1016))
	for range 300 {
		s := mixed(r)
		tours := toursOf(s)
		list, rival := slices.Clone(tours[r.Intn(len(tours))]), slices.Clone(someTour(r, s))
		before := fmt.Sprint(s, list, rival)
		first, _ := callAll(s, 0, 0, list, rival)
		if again, _ := callAll(s, 0, 0, list, rival); again != first {
			t.Fatalf("%v: %s, and then %s", s, first, again)
		}
		if fmt.Sprint(s, list, rival) != before {
			t.Fatalf("%s was modified: %v, %v, %v", before, s, list, rival)
		}
	}
}

// busy is a season with as many tours as there can be.
func busy() api.ToSeason {
	s := seasonOf(api.MaxToDays, slices.Repeat([]api.ToTown{aTown(10, 20, 1, 50)}, api.MaxToTowns))
	for b := range s.Towns {
		for a := range b {
			s.Roads = append(s.Roads, road(a, b, 1, 1))
		}
	}
	return s
}

func BenchmarkBest(b *testing.B) {
	for s := busy(); b.Loop(); {
		tour.Best(s)
	}
}

func BenchmarkAgainst(b *testing.B) {
	rival := slices.Repeat([]int{3}, api.MaxToDays)
	for s := busy(); b.Loop(); {
		tour.Against(s, rival)
	}
}
