package pawn_test

import (
	"fmt"
	"math"
	"slices"
	"strings"
	"testing"

	"ceroplast/api"
	"ceroplast/pawn"
)

// Indices of the gowns and figures of the chapter's examples.
const (
	red  = 0
	blue = 1
	gold = 2

	queen  = 0
	bishop = 1
	lady   = 2
)

func newGown(name string, looks int) api.PaGown { return api.PaGown{Name: name, Looks: looks} }

func pawned(name string, looks, loan, rate, fee, ago, last int) api.PaGown {
	return api.PaGown{Name: name, Looks: looks, Pawn: true, Loan: loan, Rate: rate, Fee: fee, Ago: ago, Last: last}
}

func newFigure(name string, day, until, needs int) api.PaFigure {
	return api.PaFigure{Name: name, Day: day, Until: until, Needs: needs}
}

func income(day, pence int) api.PaIncome { return api.PaIncome{Day: day, Pence: pence} }

func bare() api.PaUse { return api.PaUse{Gown: api.PaNone} }

func own(gown int) api.PaUse { return api.PaUse{Gown: gown, How: api.PaOwn} }

func redeemed(gown, day int) api.PaUse {
	return api.PaUse{Gown: gown, How: api.PaRedeem, Day: day}
}

func borrowed(gown int) api.PaUse { return api.PaUse{Gown: gown, How: api.PaBorrow} }

func plan(uses ...api.PaUse) []api.PaUse { return uses }

// example is S of the chapter's examples.
func example() api.PaShow {
	return api.PaShow{
		Gowns: []api.PaGown{
			pawned("red", 3, 90, 10, 3, 20, 100),
			newGown("blue", 1),
			pawned("gold", 7, 120, 5, 8, 0, 60),
		},
		Figures: []api.PaFigure{
			newFigure("queen", 50, 59, 2),
			newFigure("bishop", 20, 80, 1),
			newFigure("lady", 45, 50, 4),
		},
		Purse:   100,
		Incomes: []api.PaIncome{income(40, 150)},
	}
}

// exampleR is R of the chapter's examples.
func exampleR() api.PaShow { return poor(20) }

// poor is S of the chapter's examples with another purse, and no incomes.
func poor(purse int) api.PaShow {
	s := example()
	s.Purse, s.Incomes = purse, nil
	return s
}

// exampleP is P of the chapter's examples.
func exampleP() []api.PaUse { return plan(redeemed(red, 0), own(blue), borrowed(gold)) }

// allBare is the plan of the example by which no figure has a gown.
func allBare() []api.PaUse { return plan(bare(), bare(), bare()) }

// show is a show of one figure, that needs nothing, and is shown on the days 20 to 29.
func show(purse int, gowns []api.PaGown, incomes ...api.PaIncome) api.PaShow {
	return api.PaShow{Gowns: gowns, Figures: []api.PaFigure{newFigure("fig", 20, 29, 0)}, Purse: purse, Incomes: incomes}
}

func gowns(gowns ...api.PaGown) []api.PaGown { return gowns }

func clone(s api.PaShow) api.PaShow {
	s.Gowns = slices.Clone(s.Gowns)
	s.Figures = slices.Clone(s.Figures)
	s.Incomes = slices.Clone(s.Incomes)
	return s
}

// change is a show that something was done to, and what Check says of it.
type change struct {
	name     string
	do       func(s *api.PaShow)
	part, at int
	e        api.Errno
}

func (c change) show() api.PaShow {
	s := example()
	c.do(&s)
	return s
}

func manyGowns(many int) []api.PaGown {
	var list []api.PaGown
	for i := range many {
		list = append(list, newGown(string(rune('a'+i)), i))
	}
	return list
}

func manyFigures(many int) []api.PaFigure {
	var list []api.PaFigure
	for i := range many {
		list = append(list, newFigure(string(rune('a'+i)), i, i, i))
	}
	return list
}

func badGowns() []change {
	changes := []change{
		{"6 gowns", func(s *api.PaShow) { s.Gowns = manyGowns(6) }, 1, 0, api.ErrLong},
		{"too many gowns before all else", func(s *api.PaShow) {
			*s = api.PaShow{Gowns: make([]api.PaGown, 6), Figures: make([]api.PaFigure, 4), Purse: -1}
		}, 1, 0, api.ErrLong},
		{"name of a gown", func(s *api.PaShow) { s.Gowns[2].Name = "Gold" }, 1, 2, api.ErrForm},
		{"no name of a gown", func(s *api.PaShow) { s.Gowns[0].Name = "" }, 1, 0, api.ErrForm},
		{"a long name of a gown", func(s *api.PaShow) { s.Gowns[1].Name = "abcdefghijklmnopq" }, 1, 1, api.ErrForm},
		{"name of a gown before all else of it", func(s *api.PaShow) { s.Gowns[0] = newGown("?", 16) }, 1, 0, api.ErrForm},
		{"two gowns of one name", func(s *api.PaShow) { s.Gowns[2].Name = "red" }, 1, 2, api.ErrTwice},
		{"two gowns of one name before a number", func(s *api.PaShow) { s.Gowns[2] = newGown("blue", -1) }, 1, 2, api.ErrTwice},
		{"the first gown decides", func(s *api.PaShow) { s.Gowns[1].Looks, s.Gowns[2].Name = 16, "" }, 1, 1, api.ErrRange},
		{"a gown before figures", func(s *api.PaShow) { s.Gowns[2].Looks, s.Figures = 16, make([]api.PaFigure, 4) }, 1, 2, api.ErrRange},
	}
	fields := []struct {
		name string
		most int
		of   func(g *api.PaGown) *int
	}{
		{"Looks", 15, func(g *api.PaGown) *int { return &g.Looks }},
		{"Loan", 5000, func(g *api.PaGown) *int { return &g.Loan }},
		{"Rate", 500, func(g *api.PaGown) *int { return &g.Rate }},
		{"Fee", 100, func(g *api.PaGown) *int { return &g.Fee }},
		{"Ago", 364, func(g *api.PaGown) *int { return &g.Ago }},
		{"Last", 364, func(g *api.PaGown) *int { return &g.Last }},
	}
	for i, f := range fields {
		for _, n := range []int{math.MinInt, -1, f.most + 1, math.MaxInt} {
			changes = append(changes, change{fmt.Sprint(f.name, " ", n), func(s *api.PaShow) { *f.of(&s.Gowns[red]) = n }, 1, red, api.ErrRange})
			changes = append(changes, change{fmt.Sprint(f.name, " ", n, " of no pawned gown"), func(s *api.PaShow) { *f.of(&s.Gowns[blue]) = n }, 1, blue, api.ErrRange})
		}
		if i > 0 {
			changes = append(changes, change{f.name + " 1 of no pawned gown", func(s *api.PaShow) { *f.of(&s.Gowns[blue]) = 1 }, 1, blue, api.ErrRange})
		}
	}
	return changes
}

func badFigures() []change {
	changes := []change{
		{"4 figures", func(s *api.PaShow) { s.Figures = manyFigures(4) }, 2, 0, api.ErrLong},
		{"too many figures before a wrong one", func(s *api.PaShow) { s.Figures = make([]api.PaFigure, 4) }, 2, 0, api.ErrLong},
		{"too many figures before the purse", func(s *api.PaShow) { s.Figures, s.Purse = make([]api.PaFigure, 4), -1 }, 2, 0, api.ErrLong},
		{"name of a figure", func(s *api.PaShow) { s.Figures[1].Name = "9bishop" }, 2, 1, api.ErrForm},
		{"name of a figure before all else of it", func(s *api.PaShow) { s.Figures[2] = newFigure("", -1, -2, -1) }, 2, 2, api.ErrForm},
		{"two figures of one name", func(s *api.PaShow) { s.Figures[2].Name = "bishop" }, 2, 2, api.ErrTwice},
		{"two figures of one name before a number", func(s *api.PaShow) { s.Figures[1] = newFigure("queen", 365, 0, 0) }, 2, 1, api.ErrTwice},
		{"a number before the order of days", func(s *api.PaShow) { s.Figures[1] = newFigure("bishop", 9, 8, 16) }, 2, 1, api.ErrRange},
		{"Day above Until", func(s *api.PaShow) { s.Figures[0].Day = 60 }, 2, 0, api.ErrArg},
		{"Day far above Until", func(s *api.PaShow) { s.Figures[2].Day, s.Figures[2].Until = 364, 0 }, 2, 2, api.ErrArg},
		{"the first figure decides", func(s *api.PaShow) { s.Figures[0].Day, s.Figures[1].Name = 60, "" }, 2, 0, api.ErrArg},
		{"a figure before the purse", func(s *api.PaShow) { s.Figures[0].Day, s.Purse = 60, 10001 }, 2, 0, api.ErrArg},
	}
	for _, n := range []int{math.MinInt, -1, 365, math.MaxInt} {
		changes = append(changes,
			change{fmt.Sprint("Day ", n), func(s *api.PaShow) { s.Figures[1].Day = n }, 2, 1, api.ErrRange},
			change{fmt.Sprint("Until ", n), func(s *api.PaShow) { s.Figures[1].Until = n }, 2, 1, api.ErrRange})
	}
	for _, n := range []int{math.MinInt, -1, 16, math.MaxInt} {
		changes = append(changes, change{fmt.Sprint("Needs ", n), func(s *api.PaShow) { s.Figures[1].Needs = n }, 2, 1, api.ErrRange})
	}
	return changes
}

func badMoney() []change {
	changes := []change{
		{"4 incomes", func(s *api.PaShow) { s.Incomes = make([]api.PaIncome, 4) }, 4, 0, api.ErrLong},
		{"too many incomes before a wrong one", func(s *api.PaShow) { s.Incomes = slices.Repeat([]api.PaIncome{income(-1, -1)}, 4) }, 4, 0, api.ErrLong},
		{"the purse before too many incomes", func(s *api.PaShow) { s.Purse, s.Incomes = -1, make([]api.PaIncome, 4) }, 3, 0, api.ErrRange},
		{"the purse before an income", func(s *api.PaShow) { s.Purse, s.Incomes[0].Day = 10001, -1 }, 3, 0, api.ErrRange},
		{"the first income decides", func(s *api.PaShow) { s.Incomes = []api.PaIncome{income(0, 0), income(0, -1), income(-1, 0)} }, 4, 1, api.ErrRange},
	}
	for _, n := range []int{math.MinInt, -1, 10001, math.MaxInt} {
		changes = append(changes,
			change{fmt.Sprint("purse ", n), func(s *api.PaShow) { s.Purse = n }, 3, 0, api.ErrRange},
			change{fmt.Sprint("pence ", n), func(s *api.PaShow) { s.Incomes = append(s.Incomes, income(0, n)) }, 4, 1, api.ErrRange})
	}
	for _, n := range []int{math.MinInt, -1, 365, math.MaxInt} {
		changes = append(changes, change{fmt.Sprint("day of an income ", n), func(s *api.PaShow) { s.Incomes[0].Day = n }, 4, 0, api.ErrRange})
	}
	return changes
}

func badShows() []change { return slices.Concat(badGowns(), badFigures(), badMoney()) }

func goodShows() []change {
	return []change{
		{name: "the example", do: func(s *api.PaShow) {}},
		{name: "nothing", do: func(s *api.PaShow) { *s = api.PaShow{} }},
		{name: "5 gowns", do: func(s *api.PaShow) { s.Gowns = manyGowns(5) }},
		{name: "3 figures on one day", do: func(s *api.PaShow) { s.Figures = manyFigures(3) }},
		{name: "the greatest numbers", do: func(s *api.PaShow) {
			s.Gowns[0] = pawned("abcdefghijklmnop", 15, 5000, 500, 100, 364, 364)
			s.Figures[0] = newFigure("a", 364, 364, 15)
			s.Purse, s.Incomes = 10000, slices.Repeat([]api.PaIncome{income(364, 10000)}, 3)
		}},
		{name: "the least numbers", do: func(s *api.PaShow) {
			s.Gowns[0], s.Figures[0] = pawned("a", 0, 0, 0, 0, 0, 0), newFigure("a", 0, 0, 0)
			s.Purse, s.Incomes[0] = 0, income(0, 0)
		}},
		{name: "a pawned gown with nothing to pay", do: func(s *api.PaShow) { s.Gowns[blue].Pawn = true }},
		{name: "a figure with the name of a gown", do: func(s *api.PaShow) { s.Figures[0].Name = "red" }},
		{name: "incomes in another order", do: func(s *api.PaShow) { s.Incomes = []api.PaIncome{income(9, 1), income(3, 1), income(9, 1)} }},
	}
}

func TestP4_1Check(t *testing.T) {
	for _, c := range slices.Concat(badShows(), goodShows()) {
		if part, at, e := pawn.Check(c.show()); part != c.part || at != c.at || e != c.e {
			t.Errorf("%s: Check = %d, %d, %d, not %d, %d, %d", c.name, part, at, e, c.part, c.at, c.e)
		}
	}
}

func TestErrorOfTheShowComesFirst(t *testing.T) {
	for _, c := range badShows() {
		s := c.show()
		wrong := make([]api.PaUse, 9)
		cost1, e1 := pawn.Redeem(s, -1, -1)
		cost2, e2 := pawn.Borrow(s, 9, 9)
		gowns, e3 := pawn.Suits(s, -1)
		left, e4 := pawn.Purse(s, wrong, 365)
		day, e5 := pawn.Short(s, wrong)
		best, without, cost3, e6 := pawn.Best(s)
		must, may, e7 := pawn.Bare(s)
		need, e8 := pawn.Need(s)
		lost, e9 := pawn.Lost(s, wrong)
		for i, e := range []api.Errno{e1, e2, e3, e4, e5, e6, e7, e8, e9} {
			if e != c.e {
				t.Errorf("%s: function %d returns %d, not %d", c.name, i, e, c.e)
			}
		}
		if cost1 != 0 || cost2 != 0 || left != 0 || day != 0 || without != 0 || cost3 != 0 || need != 0 || len(gowns)+len(best)+len(must)+len(may)+len(lost) > 0 {
			t.Errorf("%s: a result beside the error", c.name)
		}
	}
}

func TestP4_2Redeem(t *testing.T) {
	edges := example()
	edges.Gowns = gowns(pawned("a", 0, 7, 100, 9, 0, 364), pawned("b", 0, 5000, 500, 9, 364, 364), pawned("c", 0, 1, 2, 3, 29, 0), pawned("d", 0, 8, 0, 0, 0, 60))
	for i, c := range []struct {
		s               api.PaShow
		gown, day, want int
		e               api.Errno
	}{
		{example(), red, 0, 100, api.OK},
		{example(), red, 9, 100, api.OK},
		{example(), red, 10, 110, api.OK},
		{example(), red, 39, 110, api.OK},
		{example(), red, 40, 120, api.OK},
		{example(), red, 100, 140, api.OK},
		{example(), gold, 30, 130, api.OK},
		{example(), gold, 60, 135, api.OK},
		{edges, 0, 29, 107, api.OK},
		{edges, 0, 30, 207, api.OK},
		{edges, 0, 359, 1207, api.OK},
		{edges, 0, 360, 1307, api.OK},
		{edges, 0, 364, 1307, api.OK},
		{edges, 1, 0, 11500, api.OK},
		{edges, 1, 364, 17500, api.OK},
		{edges, 2, 0, 3, api.OK},
		{edges, 3, 60, 8, api.OK},
		{example(), red, 101, 0, api.ErrDown},
		{example(), red, 364, 0, api.ErrDown},
		{example(), gold, 61, 0, api.ErrDown},
		{edges, 2, 1, 0, api.ErrDown},
		{example(), red, 365, 0, api.ErrRange},
		{example(), red, -1, 0, api.ErrRange},
		{edges, 1, 365, 0, api.ErrRange},
		{example(), red, math.MaxInt, 0, api.ErrRange},
		{example(), red, math.MinInt, 0, api.ErrRange},
		{example(), blue, 0, 0, api.ErrArg},
		{example(), blue, 365, 0, api.ErrArg},
		{example(), 3, 365, 0, api.ErrNone},
		{example(), -1, 0, 0, api.ErrNone},
		{example(), math.MaxInt, 0, 0, api.ErrNone},
		{example(), math.MinInt, -1, 0, api.ErrNone},
		{api.PaShow{}, 0, 0, 0, api.ErrNone},
	} {
		if got, e := pawn.Redeem(c.s, c.gown, c.day); got != c.want || e != c.e {
			t.Errorf("%d: Redeem = %d, %d, not %d, %d", i, got, e, c.want, c.e)
		}
	}
}

func TestP4_2Borrow(t *testing.T) {
	edges := example()
	edges.Gowns = gowns(pawned("a", 0, 1, 2, 100, 3, 364), pawned("b", 0, 1, 2, 0, 3, 59), pawned("c", 0, 1, 2, 7, 3, 58))
	edges.Figures[lady] = newFigure("lady", 0, 364, 15)
	edges.Figures[bishop] = newFigure("bishop", 58, 58, 0)
	for i, c := range []struct {
		s                  api.PaShow
		gown, figure, want int
		e                  api.Errno
	}{
		{example(), red, queen, 30, api.OK},
		{example(), gold, lady, 48, api.OK},
		{example(), gold, queen, 80, api.OK},
		{example(), red, bishop, 183, api.OK},
		{example(), red, lady, 18, api.OK}, // it has not what she needs
		{edges, 0, lady, 36500, api.OK},
		{edges, 0, bishop, 100, api.OK},
		{edges, 1, queen, 0, api.OK}, // its last day is hers
		{edges, 2, bishop, 7, api.OK},
		{edges, 2, queen, 0, api.ErrDown},
		{edges, 1, lady, 0, api.ErrDown},
		{example(), gold, bishop, 0, api.ErrDown},
		{example(), blue, bishop, 0, api.ErrArg},
		{example(), blue, 3, 0, api.ErrNone},
		{example(), blue, -1, 0, api.ErrNone},
		{example(), red, math.MaxInt, 0, api.ErrNone},
		{example(), red, math.MinInt, 0, api.ErrNone},
		{example(), 3, queen, 0, api.ErrNone},
		{example(), -1, queen, 0, api.ErrNone},
		{example(), math.MaxInt, math.MaxInt, 0, api.ErrNone},
		{api.PaShow{}, 0, 0, 0, api.ErrNone},
		{api.PaShow{Gowns: gowns(newGown("a", 0))}, 0, 0, 0, api.ErrNone},
	} {
		if got, e := pawn.Borrow(c.s, c.gown, c.figure); got != c.want || e != c.e {
			t.Errorf("%d: Borrow = %d, %d, not %d, %d", i, got, e, c.want, c.e)
		}
	}
}

func TestP4_3Suits(t *testing.T) {
	// Nobody can borrow the first one: it is redeemed on day 0.
	early := show(0, gowns(pawned("a", 3, 9, 9, 9, 9, 0), newGown("b", 6), newGown("c", 15), pawned("d", 11, 5000, 0, 0, 0, 364), newGown("e", 0)))
	needs := func(bits int) api.PaShow {
		s := clone(early)
		s.Figures[0].Needs = bits
		return s
	}
	first := needs(0)
	first.Figures[0].Day = 0
	for i, c := range []struct {
		s      api.PaShow
		figure int
		want   []int
		e      api.Errno
	}{
		{example(), queen, []int{red, gold}, api.OK},
		{example(), bishop, []int{red, blue, gold}, api.OK},
		{example(), lady, []int{gold}, api.OK},
		{exampleR(), lady, []int{gold}, api.OK},
		{needs(0), 0, []int{0, 1, 2, 3, 4}, api.OK},
		{first, 0, []int{0, 1, 2, 3, 4}, api.OK},
		{needs(1), 0, []int{0, 2, 3}, api.OK},
		{needs(3), 0, []int{0, 2, 3}, api.OK},
		{needs(6), 0, []int{1, 2}, api.OK},
		{needs(15), 0, []int{2}, api.OK},
		{needs(5), 0, []int{2}, api.OK},
		{show(0, nil), 0, nil, api.OK},
		{show(0, gowns(newGown("a", 0))), 0, []int{0}, api.OK},
		{example(), 3, nil, api.ErrNone},
		{example(), -1, nil, api.ErrNone},
		{example(), math.MinInt, nil, api.ErrNone},
		{example(), math.MaxInt, nil, api.ErrNone},
		{api.PaShow{Gowns: gowns(newGown("a", 0))}, 0, nil, api.ErrNone},
	} {
		if got, e := pawn.Suits(c.s, c.figure); !slices.Equal(got, c.want) || e != c.e {
			t.Errorf("%d: Suits = %v, %d, not %v, %d", i, got, e, c.want, c.e)
		}
	}
}

// badPlans are plans of the example with an error.
func badPlans() []struct {
	uses []api.PaUse
	e    api.Errno
} {
	use := func(gown, how, day int) api.PaUse { return api.PaUse{Gown: gown, How: how, Day: day} }
	return []struct {
		uses []api.PaUse
		e    api.Errno
	}{
		{nil, api.ErrLong},
		{exampleP()[:2], api.ErrLong},
		{append(exampleP(), bare()), api.ErrLong},
		{plan(use(3, 9, -1)), api.ErrLong},
		{plan(own(3), bare(), bare()), api.ErrNone},
		{plan(bare(), bare(), own(-2)), api.ErrNone},
		{plan(use(math.MaxInt, 9, 9), bare(), bare()), api.ErrNone},
		{plan(use(math.MinInt, 9, 9), bare(), bare()), api.ErrNone},
		{plan(redeemed(red, 0), redeemed(red, 1), bare()), api.ErrTwice},
		{plan(redeemed(red, 0), bare(), borrowed(red)), api.ErrTwice},
		{plan(borrowed(red), use(red, 9, 9), bare()), api.ErrTwice},
		{plan(bare(), own(blue), own(blue)), api.ErrTwice},
		{plan(use(api.PaNone, 0, 1), bare(), bare()), api.ErrArg},
		{plan(use(api.PaNone, 0, -1), bare(), bare()), api.ErrArg},
		{plan(bare(), use(api.PaNone, api.PaRedeem, 0), bare()), api.ErrArg},
		{plan(bare(), use(api.PaNone, api.PaBorrow, 0), bare()), api.ErrArg},
		{plan(bare(), use(api.PaNone, -1, 0), bare()), api.ErrArg},
		{plan(bare(), redeemed(blue, 0), bare()), api.ErrArg},
		{plan(bare(), borrowed(blue), bare()), api.ErrArg},
		{plan(bare(), use(blue, api.PaOwn, 1), bare()), api.ErrArg},
		{plan(bare(), use(blue, api.PaOwn, -1), bare()), api.ErrArg},
		{plan(own(red), bare(), bare()), api.ErrArg},
		{plan(use(red, 3, 0), bare(), bare()), api.ErrArg},
		{plan(use(red, -1, 0), bare(), bare()), api.ErrArg},
		{plan(use(red, math.MaxInt, 0), bare(), bare()), api.ErrArg},
		{plan(use(red, math.MinInt, 0), bare(), bare()), api.ErrArg},
		{plan(use(red, api.PaBorrow, 1), bare(), bare()), api.ErrArg},
		{plan(redeemed(red, -1), bare(), bare()), api.ErrArg},
		{plan(redeemed(red, 365), bare(), bare()), api.ErrArg},
		{plan(redeemed(red, math.MaxInt), bare(), bare()), api.ErrArg},
		{plan(redeemed(red, math.MinInt), bare(), bare()), api.ErrArg},
		{plan(redeemed(blue, 0), bare(), bare()), api.ErrArg}, // nor has it what she needs
		{plan(own(blue), bare(), bare()), api.ErrDown},
		{plan(bare(), bare(), redeemed(red, 0)), api.ErrDown},
		{plan(bare(), bare(), borrowed(red)), api.ErrDown},
		{plan(redeemed(red, 51), bare(), bare()), api.ErrDown},
		{plan(redeemed(red, 364), bare(), bare()), api.ErrDown},
		{plan(bare(), redeemed(gold, 21), bare()), api.ErrDown},
		{plan(bare(), borrowed(gold), bare()), api.ErrDown},
		// The first use with an error decides.
		{plan(own(blue), own(3), bare()), api.ErrDown},
		{plan(bare(), use(api.PaNone, 1, 0), own(9)), api.ErrArg},
		{plan(borrowed(red), redeemed(red, 0), own(9)), api.ErrTwice},
	}
}

// okPlans are plans of the example without an error.
func okPlans() [][]api.PaUse {
	return [][]api.PaUse{
		exampleP(),
		allBare(),
		plan(redeemed(red, 50), bare(), bare()),
		plan(bare(), redeemed(red, 20), bare()),
		plan(bare(), redeemed(gold, 20), bare()),
		plan(borrowed(gold), borrowed(red), bare()),
		plan(bare(), own(blue), redeemed(gold, 45)),
	}
}

func TestErrorOfThePlan(t *testing.T) {
	check := func(s api.PaShow, uses []api.PaUse, e api.Errno) {
		t.Helper()
		left, e1 := pawn.Purse(s, uses, 0)
		day, e2 := pawn.Short(s, uses)
		lost, e3 := pawn.Lost(s, uses)
		_, e4 := pawn.Purse(s, uses, 365)
		if e1 != e || e3 != e || e2 != e && (e != api.OK || e2 != api.ErrNone) {
			t.Errorf("%v: %d, %d, %d, not %d", uses, e1, e2, e3, e)
		}
		if e != api.OK && (left != 0 || day != 0 || len(lost) > 0 || e4 != e) {
			t.Errorf("%v: a result beside the error, or %d for a day that is none", uses, e4)
		}
	}
	for _, c := range badPlans() {
		check(example(), c.uses, c.e)
	}
	for _, uses := range okPlans() {
		check(example(), uses, api.OK)
	}
	// It is redeemed behind its last day, though before the figure's.
	check(show(0, gowns(pawned("a", 0, 0, 0, 0, 0, 10))), plan(redeemed(0, 10)), api.OK)
	check(show(0, gowns(pawned("a", 0, 0, 0, 0, 0, 10))), plan(redeemed(0, 11)), api.ErrDown)
	check(show(0, gowns(pawned("a", 0, 0, 0, 0, 0, 29))), plan(borrowed(0)), api.OK)
	check(show(0, gowns(pawned("a", 0, 0, 0, 0, 0, 28))), plan(borrowed(0)), api.ErrDown)
	check(show(0, nil), plan(own(0)), api.ErrNone)
	check(api.PaShow{}, nil, api.OK)
	check(api.PaShow{}, plan(bare()), api.ErrLong)
}

func TestP4_4Purse(t *testing.T) {
	one := show(10, gowns(pawned("a", 0, 100, 10, 7, 15, 364)), income(20, 50), income(3, 5), income(20, 1))
	for i, c := range []struct {
		s         api.PaShow
		uses      []api.PaUse
		day, want int
		e         api.Errno
	}{
		{example(), exampleP(), 0, 0, api.OK},
		{example(), exampleP(), 39, 0, api.OK},
		{example(), exampleP(), 40, 150, api.OK},
		{example(), exampleP(), 44, 150, api.OK},
		{example(), exampleP(), 45, 102, api.OK},
		{example(), exampleP(), 364, 102, api.OK},
		{exampleR(), exampleP(), 0, -80, api.OK},
		{exampleR(), exampleP(), 364, -128, api.OK},
		{example(), allBare(), 364, 250, api.OK},
		{one, plan(bare()), 2, 10, api.OK},
		{one, plan(bare()), 3, 15, api.OK},
		{one, plan(bare()), 20, 66, api.OK},
		{one, plan(redeemed(0, 14)), 13, 15, api.OK},
		{one, plan(redeemed(0, 14)), 14, -95, api.OK},
		{one, plan(redeemed(0, 15)), 15, -105, api.OK},
		{one, plan(redeemed(0, 15)), 20, -54, api.OK},
		{one, plan(borrowed(0)), 19, 15, api.OK},
		{one, plan(borrowed(0)), 20, -4, api.OK},
		{one, plan(borrowed(0)), 364, -4, api.OK},
		{api.PaShow{Purse: 3}, nil, 9, 3, api.OK},
		{example(), exampleP(), -1, 0, api.ErrRange},
		{example(), exampleP(), 365, 0, api.ErrRange},
		{example(), exampleP(), math.MinInt, 0, api.ErrRange},
		{example(), exampleP(), math.MaxInt, 0, api.ErrRange},
	} {
		if got, e := pawn.Purse(c.s, c.uses, c.day); got != c.want || e != c.e {
			t.Errorf("%d: Purse = %d, %d, not %d, %d", i, got, e, c.want, c.e)
		}
	}
}

func TestP4_4Short(t *testing.T) {
	lent := plan(borrowed(red), own(blue), borrowed(gold)) // 48 pence on day 45, 30 on day 50
	late := show(0, gowns(pawned("a", 0, 0, 0, 5, 0, 364)), income(364, 50))
	late.Figures[0] = newFigure("fig", 364, 364, 0)
	on := func(day, pence int) api.PaShow {
		return show(9, gowns(pawned("a", 0, 100, 10, 7, 0, 364)), income(day, pence))
	}
	for i, c := range []struct {
		s    api.PaShow
		uses []api.PaUse
		want int
		e    api.Errno
	}{
		{example(), exampleP(), 0, api.ErrNone},
		{exampleR(), exampleP(), 0, api.OK},
		{poor(99), exampleP(), 0, api.OK},
		{poor(100), exampleP(), 45, api.OK},
		{poor(147), exampleP(), 45, api.OK},
		{poor(148), exampleP(), 0, api.ErrNone},
		{poor(47), lent, 45, api.OK},
		{poor(48), lent, 50, api.OK},
		{poor(77), lent, 50, api.OK},
		{poor(78), lent, 0, api.ErrNone},
		{poor(0), allBare(), 0, api.ErrNone},
		{poor(0), plan(bare(), own(blue), bare()), 0, api.ErrNone},
		// What comes on the day on which it is paid is enough, what comes later is not.
		{on(5, 101), plan(redeemed(0, 5)), 0, api.ErrNone},
		{on(5, 100), plan(redeemed(0, 5)), 5, api.OK},
		{on(6, 101), plan(redeemed(0, 5)), 5, api.OK},
		{on(20, 61), plan(borrowed(0)), 0, api.ErrNone},
		{on(20, 60), plan(borrowed(0)), 20, api.OK},
		{on(21, 61), plan(borrowed(0)), 20, api.OK},
		{late, plan(borrowed(0)), 0, api.ErrNone},
		{show(0, late.Gowns), plan(borrowed(0)), 20, api.OK},
		{api.PaShow{}, nil, 0, api.ErrNone},
	} {
		if got, e := pawn.Short(c.s, c.uses); got != c.want || e != c.e {
			t.Errorf("%d: Short = %d, %d, not %d, %d", i, got, e, c.want, c.e)
		}
	}
}

// tied are shows of which several plans leave as few figures without a gown, and cost as much.
func tied() []struct {
	s    api.PaShow
	want []api.PaUse
	cost int
} {
	two := show(50, gowns(newGown("a", 1), newGown("b", 1)))
	two.Figures = append(two.Figures, newFigure("other", 0, 0, 1))
	wrongWay := show(50, gowns(newGown("a", 3), newGown("b", 1)))
	wrongWay.Figures = append(wrongWay.Figures, newFigure("other", 0, 0, 2))
	// With gown b, which is redeemed on day 0, gown a is redeemed too late to come first.
	late := show(10, gowns(pawned("a", 2, 10, 0, 1, 0, 364), pawned("b", 1, 9, 0, 100, 0, 0), pawned("c", 1, 5000, 0, 9, 0, 364)), income(20, 50))
	late.Figures = []api.PaFigure{newFigure("fig", 20, 29, 2), newFigure("other", 25, 25, 1)}
	return []struct {
		s    api.PaShow
		want []api.PaUse
		cost int
	}{
		{two, plan(own(0), own(1)), 0},
		{wrongWay, plan(own(1), own(0)), 0},
		{late, plan(redeemed(0, 0), borrowed(2)), 19},
		{show(50, gowns(pawned("a", 0, 10, 0, 1, 0, 364))), plan(redeemed(0, 0)), 10},
		{show(50, gowns(pawned("a", 0, 10, 0, 1, 0, 364)), income(5, 50)), plan(redeemed(0, 0)), 10},
		{show(9, gowns(pawned("a", 0, 10, 0, 1, 0, 364)), income(5, 50)), plan(redeemed(0, 5)), 10},
		{show(9, gowns(pawned("a", 0, 10, 0, 1, 0, 364)), income(20, 50)), plan(redeemed(0, 20)), 10},
		{show(9, gowns(pawned("a", 0, 10, 0, 1, 0, 364)), income(21, 50)), plan(bare()), 0},
		{show(9, gowns(pawned("a", 0, 0, 0, 0, 0, 364), newGown("b", 0))), plan(redeemed(0, 0)), 0},
		{show(9, gowns(newGown("b", 0), pawned("a", 0, 0, 0, 0, 0, 364))), plan(own(0)), 0},
		{show(9, gowns(newGown("b", 0)), income(0, 5)), plan(own(0)), 0},
	}
}

func TestP4_5Best(t *testing.T) {
	dear := example()
	dear.Gowns[red].Fee = 100
	lateMoney := clone(dear)
	lateMoney.Purse = 90
	for i, c := range []struct {
		s             api.PaShow
		want          []api.PaUse
		without, cost int
	}{
		{example(), plan(borrowed(red), own(blue), borrowed(gold)), 0, 78},
		{exampleR(), plan(bare(), own(blue), bare()), 2, 0},
		{poor(30), plan(borrowed(red), own(blue), bare()), 1, 30},
		{poor(77), plan(borrowed(red), own(blue), bare()), 1, 30},
		{poor(78), plan(borrowed(red), own(blue), borrowed(gold)), 0, 78},
		{dear, plan(redeemed(red, 0), own(blue), borrowed(gold)), 0, 148},
		{lateMoney, plan(redeemed(red, 40), own(blue), borrowed(gold)), 0, 168},
		{api.PaShow{Purse: 9}, nil, 0, 0},
		{api.PaShow{Gowns: gowns(newGown("a", 0))}, nil, 0, 0},
		{show(9, nil), plan(bare()), 1, 0},
		// The second month is begun on day 5, when there is money enough.
		{show(14, gowns(pawned("a", 0, 10, 5, 2, 25, 364)), income(5, 6)), plan(redeemed(0, 5)), 0, 20},
		{show(15, gowns(pawned("a", 0, 10, 5, 2, 25, 364)), income(5, 6)), plan(redeemed(0, 0)), 0, 15},
		{show(14, gowns(pawned("a", 0, 10, 5, 2, 25, 4)), income(5, 6)), plan(bare()), 1, 0},
		{show(14, gowns(pawned("a", 0, 10, 5, 2, 25, 4)), income(4, 1)), plan(redeemed(0, 4)), 0, 15},
	} {
		got, without, cost, e := pawn.Best(c.s)
		if !slices.Equal(got, c.want) || without != c.without || cost != c.cost || e != api.OK {
			t.Errorf("%d: Best = %v, %d, %d, %d, not %v, %d, %d", i, got, without, cost, e, c.want, c.without, c.cost)
		}
	}
	for i, c := range tied() {
		got, _, cost, e := pawn.Best(c.s)
		if !slices.Equal(got, c.want) || cost != c.cost || e != api.OK {
			t.Errorf("tied %d: Best = %v for %d, %d, not %v for %d", i, got, cost, e, c.want, c.cost)
		}
	}
}

func TestP4_6Bare(t *testing.T) {
	never := poor(10000)
	never.Figures[lady].Needs = 8
	scarce := poor(10000)
	scarce.Gowns = gowns(newGown("a", 15), newGown("b", 2))
	for i, c := range []struct {
		s         api.PaShow
		must, may []int
	}{
		{example(), nil, nil},
		{exampleR(), []int{queen, lady}, []int{queen, lady}},
		{poor(30), []int{lady}, []int{lady}},
		{poor(48), nil, []int{queen, lady}}, // though it costs more that the lady has one
		{poor(77), nil, []int{queen, lady}},
		{poor(78), nil, nil},
		{never, []int{lady}, []int{lady}},
		{scarce, nil, []int{bishop, lady}},
		{api.PaShow{}, nil, nil},
		{show(0, nil), []int{0}, []int{0}},
		{show(0, gowns(newGown("a", 0))), nil, nil},
	} {
		if must, may, e := pawn.Bare(c.s); !slices.Equal(must, c.must) || !slices.Equal(may, c.may) || e != api.OK {
			t.Errorf("%d: Bare = %v, %v, %d, not %v, %v", i, must, may, e, c.must, c.may)
		}
	}
}

func TestP4_7Need(t *testing.T) {
	never := exampleR()
	never.Figures[lady].Needs = 8
	two := show(0, gowns(pawned("a", 0, 5000, 500, 100, 270, 0), pawned("b", 0, 1, 0, 0, 0, 0)))
	two.Figures = append(two.Figures, newFigure("other", 0, 1, 0))
	with := func(purse, loan int) api.PaShow {
		s := clone(two)
		s.Purse, s.Gowns[1].Loan = purse, loan
		return s
	}
	for i, c := range []struct {
		s    api.PaShow
		want int
		e    api.Errno
	}{
		{example(), 0, api.ErrNone},
		{exampleR(), 58, api.OK},
		{poor(0), 78, api.OK},
		{poor(77), 1, api.OK},
		{poor(78), 0, api.ErrNone},
		{never, 0, api.ErrDown},
		{api.PaShow{}, 0, api.ErrNone},
		{show(5000, nil), 0, api.ErrDown},
		{show(0, gowns(newGown("a", 0))), 0, api.ErrNone},
		// It is 5000 pence, and 500 for each of ten months, and what the other one costs.
		{with(0, 0), 10000, api.OK},
		{with(0, 1), 0, api.ErrDown},
		{with(1, 1), 10000, api.OK},
		{with(10000, 0), 0, api.ErrNone},
		{with(10000, 1), 1, api.OK}, // more than MaxPaPence are in the purse then
		{with(10000, 5000), 5000, api.OK},
		// By day 20 there is money to borrow it; to redeem it in time there is less.
		{show(3, gowns(pawned("a", 0, 10, 5, 2, 25, 364)), income(20, 6)), 11, api.OK},
		{show(3, gowns(pawned("a", 0, 10, 5, 2, 25, 364)), income(4, 6)), 6, api.OK},
		{show(3, gowns(pawned("a", 0, 10, 5, 2, 25, 364)), income(5, 8)), 9, api.OK},
		{show(3, gowns(pawned("a", 0, 10, 9, 2, 25, 364)), income(19, 8)), 9, api.OK},
		{show(3, gowns(pawned("a", 0, 10, 9, 2, 25, 28)), income(19, 8)), 16, api.OK},
	} {
		if got, e := pawn.Need(c.s); got != c.want || e != c.e {
			t.Errorf("%d: Need = %d, %d, not %d, %d", i, got, e, c.want, c.e)
		}
	}
}

func TestP4_8Lost(t *testing.T) {
	ever := example()
	ever.Gowns[red].Last = 364
	soon := example()
	soon.Gowns[red].Last = 363
	for i, c := range []struct {
		s    api.PaShow
		uses []api.PaUse
		want []int
	}{
		{example(), exampleP(), []int{gold}},
		{exampleR(), exampleP(), []int{gold}}, // whether it can be paid or not
		{example(), allBare(), []int{red, gold}},
		{example(), plan(borrowed(red), own(blue), borrowed(gold)), []int{red, gold}},
		{example(), plan(redeemed(red, 50), bare(), redeemed(gold, 45)), nil},
		{example(), plan(redeemed(gold, 0), redeemed(red, 20), bare()), nil},
		{ever, allBare(), []int{gold}},
		{ever, plan(borrowed(red), bare(), bare()), []int{gold}},
		{soon, allBare(), []int{red, gold}},
		{api.PaShow{Gowns: gowns(newGown("a", 0), pawned("b", 0, 0, 0, 0, 0, 0))}, nil, []int{1}},
		{api.PaShow{}, nil, nil},
	} {
		if got, e := pawn.Lost(c.s, c.uses); !slices.Equal(got, c.want) || e != api.OK {
			t.Errorf("%d: Lost = %v, %d, not %v", i, got, e, c.want)
		}
	}
}

// callAll calls every function, and returns all results as a text.
func callAll(s api.PaShow, gown, figure, day int, uses []api.PaUse) string {
	var out []any
	call := func(results ...any) { out = append(out, results...) }
	call(pawn.Check(s))
	call(pawn.Redeem(s, gown, day))
	call(pawn.Borrow(s, gown, figure))
	call(pawn.Suits(s, figure))
	call(pawn.Purse(s, uses, day))
	call(pawn.Short(s, uses))
	call(pawn.Best(s))
	call(pawn.Bare(s))
	call(pawn.Need(s))
	call(pawn.Lost(s, uses))
	return fmt.Sprint(out...)
}

func TestP4_16AnyArguments(t *testing.T) {
	odd := []int{math.MinInt, -5, -1, 0, 1, 2, 3, 15, 16, 63, 64, 364, 365, 10001, math.MaxInt}
	shows := []api.PaShow{{}, {Gowns: make([]api.PaGown, 1000), Figures: make([]api.PaFigure, 1000), Incomes: make([]api.PaIncome, 1000)}, example(), exampleR()}
	for _, n := range odd {
		for _, do := range []func(s *api.PaShow){
			func(s *api.PaShow) { s.Gowns[0].Looks = n },
			func(s *api.PaShow) { s.Gowns[0] = pawned("red", 3, n, n, n, n, n) },
			func(s *api.PaShow) { s.Gowns[0].Last = n },
			func(s *api.PaShow) { s.Gowns[1].Ago = n },
			func(s *api.PaShow) { s.Figures[1].Day = n },
			func(s *api.PaShow) { s.Figures[1].Until = n },
			func(s *api.PaShow) { s.Figures[1].Needs = n },
			func(s *api.PaShow) { s.Purse = n },
			func(s *api.PaShow) { s.Incomes[0] = income(n, n) },
			func(s *api.PaShow) { s.Gowns[1].Name = strings.Repeat("a", max(0, min(n, 1001))) },
		} {
			shows = append(shows, change{do: do}.show())
		}
	}
	for _, s := range shows {
		before := fmt.Sprint(s)
		for _, n := range odd {
			uses := plan(api.PaUse{Gown: n, How: n, Day: n}, bare(), bare())
			first := callAll(s, n, n, n, uses)
			if again := callAll(s, n, n, n, uses); again != first {
				t.Fatalf("%v, %d: %s, and then %s", s, n, first, again)
			}
			if !slices.Equal(uses, plan(api.PaUse{Gown: n, How: n, Day: n}, bare(), bare())) {
				t.Fatalf("%v was modified", uses)
			}
			callAll(s, 0, n, 3, plan(api.PaUse{How: n}, bare(), bare()))
			callAll(s, 0, 0, n, plan(redeemed(0, n), bare(), bare()))
			callAll(s, n, 0, 0, make([]api.PaUse, max(0, min(n, 1001))))
		}
		if fmt.Sprint(s) != before {
			t.Errorf("%s was modified: %v", before, s)
		}
	}
}

func TestP4_16NewMemory(t *testing.T) {
	s := poor(48)
	uses := exampleP()
	before := fmt.Sprint(s, uses)
	text := callAll(s, 0, 0, 0, uses)
	gowns, _ := pawn.Suits(s, queen)
	best, _, _, _ := pawn.Best(s)
	_, may, _ := pawn.Bare(s)
	lost, _ := pawn.Lost(s, uses)
	gowns[0], best[0].Gown, may[0], lost[0] = 4, 4, 4, 4
	if fmt.Sprint(s, uses) != before || callAll(s, 0, 0, 0, uses) != text {
		t.Error("a result shares memory with an argument, or is kept")
	}
	must, may, _ := pawn.Bare(exampleR())
	must[0] = 9
	_ = append(must, 9)
	if !slices.Equal(may, []int{queen, lady}) {
		t.Error("must and may of Bare share memory")
	}
}

func TestP4_16NilAndEmpty(t *testing.T) {
	empty := api.PaShow{Gowns: []api.PaGown{}, Figures: []api.PaFigure{}, Incomes: []api.PaIncome{}}
	if a, b := callAll(api.PaShow{}, 0, 0, 0, nil), callAll(empty, 0, 0, 0, plan()); a != b {
		t.Errorf("%s, and %s", a, b)
	}
}

// full is a show with as many plans as can be.
func full() api.PaShow {
	s := api.PaShow{Figures: manyFigures(3), Purse: 10000, Incomes: []api.PaIncome{income(100, 5000), income(200, 5000), income(300, 5000)}}
	for i := range api.MaxPaGowns {
		s.Gowns = append(s.Gowns, pawned(string(rune('a'+i)), 15, 900+i, 50+i, i+1, 10*i, 364))
	}
	for i := range s.Figures {
		s.Figures[i].Day, s.Figures[i].Until = 364-i, 364
	}
	return s
}

func BenchmarkBest(b *testing.B) {
	s := full()
	for b.Loop() {
		pawn.Best(s)
	}
}

func BenchmarkNeed(b *testing.B) {
	s := full()
	for b.Loop() {
		pawn.Need(s)
	}
}
