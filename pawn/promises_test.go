package pawn_test

import (
	"cmp"
	"iter"
	"math/rand"
	"slices"
	"testing"

	"ceroplast/api"
	"ceroplast/pawn"
)

// The definitions, word by word.

// monthsOf counts the months that were begun, one after the other.
func monthsOf(days int) int {
	months := 1
	for ; days >= 30; days -= 30 {
		months++
	}
	return months
}

// paidOf returns what a use costs, and the day on which this is paid.
func paidOf(s api.PaShow, figure int, u api.PaUse) (on, pence int) {
	if u.Gown < 0 || !s.Gowns[u.Gown].Pawn {
		return 0, 0
	}
	g, f := s.Gowns[u.Gown], s.Figures[figure]
	if u.How == api.PaRedeem {
		return u.Day, g.Loan + g.Rate*monthsOf(g.Ago+u.Day)
	}
	for range f.Until - f.Day + 1 {
		pence += g.Fee
	}
	return f.Day, pence
}

func costOf(s api.PaShow, uses []api.PaUse) int {
	cost := 0
	for figure, u := range uses {
		_, pence := paidOf(s, figure, u)
		cost += pence
	}
	return cost
}

func leftOf(s api.PaShow, uses []api.PaUse, day int) int {
	left := s.Purse
	for _, i := range s.Incomes {
		if i.Day <= day {
			left += i.Pence
		}
	}
	for figure, u := range uses {
		if on, pence := paidOf(s, figure, u); on <= day {
			left -= pence
		}
	}
	return left
}

// shortOf returns the fewest pence with which, added to the purse, a plan can be paid: on the days on which something is paid.
func shortOf(s api.PaShow, uses []api.PaUse) int {
	short := 0
	for figure, u := range uses {
		on, _ := paidOf(s, figure, u)
		short = max(short, -leftOf(s, uses, on))
	}
	return short
}

func withoutOf(uses []api.PaUse) int {
	without := 0
	for _, u := range uses {
		if u.Gown == api.PaNone {
			without++
		}
	}
	return without
}

// usesOf returns all uses without an error that a figure can have: on each day on which something can be redeemed.
func usesOf(s api.PaShow, figure int) []api.PaUse {
	f := s.Figures[figure]
	uses := []api.PaUse{bare()}
	for gown, g := range s.Gowns {
		if g.Looks|f.Needs != g.Looks {
			continue
		}
		if !g.Pawn {
			uses = append(uses, own(gown))
			continue
		}
		if f.Until <= g.Last {
			uses = append(uses, borrowed(gown))
		}
		for day := 0; day <= g.Last && day <= f.Day; day++ {
			uses = append(uses, redeemed(gown, day))
		}
	}
	return uses
}

// plansOf yields all plans without an error, paid or not; each one is yielded in the same memory.
func plansOf(s api.PaShow) iter.Seq[[]api.PaUse] {
	return func(yield func([]api.PaUse) bool) {
		uses := make([]api.PaUse, len(s.Figures))
		var rest func(figure int) bool
		rest = func(figure int) bool {
			if figure < 0 {
				return yield(uses)
			}
			for _, u := range usesOf(s, figure) {
				isSame := func(other api.PaUse) bool { return other.Gown == u.Gown }
				if u.Gown != api.PaNone && slices.ContainsFunc(uses[figure+1:], isSame) {
					continue
				}
				uses[figure] = u
				if !rest(figure - 1) {
					return false
				}
			}
			return true
		}
		rest(len(uses) - 1)
	}
}

// compareUses compares two plans use by use.
func compareUses(a, b []api.PaUse) int {
	return slices.CompareFunc(a, b, func(u, v api.PaUse) int {
		if (u.Gown == api.PaNone) != (v.Gown == api.PaNone) {
			return -cmp.Compare(u.Gown, v.Gown)
		}
		return cmp.Or(cmp.Compare(u.Gown, v.Gown), cmp.Compare(u.How, v.How), cmp.Compare(u.Day, v.Day))
	})
}

// answers is what is told of all plans of a show.
type answers struct {
	best          []api.PaUse
	without, cost int
	must, may     []int
	need          int // the least shortage of a plan by which none is without; -1, if there is none
}

func answersOf(s api.PaShow) answers {
	a := answers{without: len(s.Figures) + 1, need: -1}
	var in []int // by how many plans a figure is without, of those by which the fewest are
	many := 0
	for uses := range plansOf(s) {
		without, short := withoutOf(uses), shortOf(s, uses)
		if without == 0 && (a.need < 0 || short < a.need) {
			a.need = short
		}
		if short > 0 || without > a.without {
			continue
		}
		cost := costOf(s, uses)
		if cmp.Or(cmp.Compare(without, a.without), cmp.Compare(cost, a.cost), compareUses(uses, a.best)) < 0 {
			a.best, a.cost = slices.Clone(uses), cost
		}
		if without < a.without {
			a.without, many, in = without, 0, make([]int, len(uses))
		}
		many++
		for figure, u := range uses {
			if u.Gown == api.PaNone {
				in[figure]++
			}
		}
	}
	for figure, n := range in {
		if n == many {
			a.must = append(a.must, figure)
		}
		if n > 0 {
			a.may = append(a.may, figure)
		}
	}
	return a
}

func randomGown(r *rand.Rand, name string, last int) api.PaGown {
	looks := []int{1, 3, 5, 7, 15}[r.Intn(5)]
	if r.Intn(5) == 0 {
		return newGown(name, looks)
	}
	return pawned(name, looks, r.Intn(40), r.Intn(15), r.Intn(9), r.Intn(60), r.Intn(last+1))
}

func randomIncomes(r *rand.Rand, last int) []api.PaIncome {
	var incomes []api.PaIncome
	for range r.Intn(4) {
		incomes = append(incomes, income(r.Intn(last+1), r.Intn(40)))
	}
	return incomes
}

// showWithin is a show of the days up to a last one.
func showWithin(r *rand.Rand, gowns, figures, last int) api.PaShow {
	s := api.PaShow{Purse: r.Intn(40), Incomes: randomIncomes(r, last)}
	for i := range gowns {
		s.Gowns = append(s.Gowns, randomGown(r, string(rune('a'+i)), last+4))
	}
	for i := range figures {
		day := r.Intn(last + 1)
		s.Figures = append(s.Figures, newFigure(string(rune('a'+i)), day, min(day+r.Intn(12), api.MaxDay), []int{0, 0, 1, 1, 2, 4, 6, 8}[r.Intn(8)]))
	}
	return s
}

// randomShow is a show of a few days, so that all of its plans can be gone through.
func randomShow(r *rand.Rand) api.PaShow { return showWithin(r, 1+r.Intn(4), r.Intn(4), 1+r.Intn(9)) }

// largeShow is a show as large as can be.
func largeShow(r *rand.Rand) api.PaShow {
	s := showWithin(r, api.MaxPaGowns, api.MaxPaFigures, api.MaxDay-4)
	s.Purse = r.Intn(150)
	return s
}

func best(t *testing.T, s api.PaShow) (uses []api.PaUse, without, cost int) {
	t.Helper()
	uses, without, cost, e := pawn.Best(s)
	if e != api.OK {
		t.Fatalf("%v: Best: %d", s, e)
	}
	return uses, without, cost
}

func checkAnswers(t *testing.T, s api.PaShow) answers {
	t.Helper()
	a := answersOf(s)
	if uses, without, cost := best(t, s); !slices.Equal(uses, a.best) || without != a.without || cost != a.cost {
		t.Fatalf("%v: Best = %v, %d, %d, not %v, %d, %d", s, uses, without, cost, a.best, a.without, a.cost)
	}
	if must, may, e := pawn.Bare(s); !slices.Equal(must, a.must) || !slices.Equal(may, a.may) || e != api.OK {
		t.Fatalf("%v: Bare = %v, %v, %d, not %v, %v", s, must, may, e, a.must, a.may)
	}
	want, e := a.need, api.OK
	switch {
	case a.need == 0:
		e = api.ErrNone
	case a.need < 0 || a.need > api.MaxPaPence:
		want, e = 0, api.ErrDown
	}
	if need, f := pawn.Need(s); need != want || f != e {
		t.Fatalf("%v: Need = %d, %d, not %d, %d", s, need, f, want, e)
	}
	return a
}

func TestP4_5ToP4_7AgainstTheDefinition(t *testing.T) {
	r := rand.New(rand.NewSource(405))
	later, lent, without, doubt := 0, 0, 0, 0
	for range 1500 {
		a := checkAnswers(t, randomShow(r))
		if slices.ContainsFunc(a.best, func(u api.PaUse) bool { return u.Day > 0 }) {
			later++
		}
		if slices.ContainsFunc(a.best, func(u api.PaUse) bool { return u.How == api.PaBorrow }) {
			lent++
		}
		if a.without > 0 {
			without++
		}
		if len(a.may) > len(a.must) {
			doubt++
		}
	}
	if later < 50 || lent < 100 || without < 100 || doubt < 50 {
		t.Errorf("only %d later, %d lent, %d without, %d in doubt", later, lent, without, doubt)
	}
	for range 8 {
		checkAnswers(t, showWithin(r, 2, 2, api.MaxDay-4))
	}
}

func TestP4_7DearAgainstTheDefinition(t *testing.T) {
	r := rand.New(rand.NewSource(407))
	met := map[api.Errno]int{}
	for range 300 {
		s := randomShow(r)
		for i := range s.Gowns {
			if s.Gowns[i].Pawn {
				s.Gowns[i].Loan, s.Gowns[i].Rate, s.Gowns[i].Fee = 3500+r.Intn(1500), r.Intn(500), 100
			}
		}
		checkAnswers(t, s)
		_, e := pawn.Need(s)
		met[e]++
	}
	if len(met) != 3 || met[api.OK] < 30 || met[api.ErrDown] < 30 {
		t.Errorf("too few of some error: %v", met)
	}
}

// randomPlan is a plan without an error, paid or not.
func randomPlan(r *rand.Rand, s api.PaShow) []api.PaUse {
	var uses []api.PaUse
	for figure := range s.Figures {
		u := bare()
		if can := usesOf(s, figure); r.Intn(5) > 0 {
			u = can[r.Intn(len(can))]
		}
		if slices.ContainsFunc(uses, func(other api.PaUse) bool { return other.Gown == u.Gown }) {
			u = bare()
		}
		uses = append(uses, u)
	}
	return uses
}

func TestP4_2AndP4_3AgainstTheDefinition(t *testing.T) {
	r := rand.New(rand.NewSource(402))
	for range 300 {
		s := largeShow(r)
		for figure := range s.Figures {
			var suits []int
			for _, u := range usesOf(s, figure)[1:] {
				suits = append(suits, u.Gown)
				_, want := paidOf(s, figure, u)
				got, e := 0, api.OK
				switch u.How {
				case api.PaRedeem:
					got, e = pawn.Redeem(s, u.Gown, u.Day)
				case api.PaBorrow:
					got, e = pawn.Borrow(s, u.Gown, figure)
				}
				if got != want || e != api.OK {
					t.Fatalf("%v: %v of %d costs %d, %d, not %d", s, u, figure, got, e, want)
				}
			}
			if got, e := pawn.Suits(s, figure); !slices.Equal(got, slices.Compact(suits)) || e != api.OK {
				t.Fatalf("%v: Suits of %d = %v, %d, not %v", s, figure, got, e, suits)
			}
		}
	}
}

func TestP4_4AndP4_8AgainstTheDefinition(t *testing.T) {
	r := rand.New(rand.NewSource(404))
	shorts := 0
	for range 1000 {
		s := largeShow(r)
		uses := randomPlan(r, s)
		first, e := 0, api.ErrNone
		for day := api.MaxDay; day >= 0; day-- {
			want := leftOf(s, uses, day)
			if got, f := pawn.Purse(s, uses, day); got != want || f != api.OK {
				t.Fatalf("%v, %v: Purse of %d = %d, %d, not %d", s, uses, day, got, f, want)
			}
			if want < 0 {
				first, e = day, api.OK
			}
		}
		if got, f := pawn.Short(s, uses); got != first || f != e {
			t.Fatalf("%v, %v: Short = %d, %d, not %d, %d", s, uses, got, f, first, e)
		}
		if e == api.OK {
			shorts++
		}
		var lost []int
		for gown, g := range s.Gowns {
			back := slices.ContainsFunc(uses, func(u api.PaUse) bool { return u.Gown == gown && u.How == api.PaRedeem })
			if g.Pawn && !back && g.Last != api.MaxDay {
				lost = append(lost, gown)
			}
		}
		if got, f := pawn.Lost(s, uses); !slices.Equal(got, lost) || f != api.OK {
			t.Fatalf("%v, %v: Lost = %v, %d, not %v", s, uses, got, f, lost)
		}
	}
	if shorts < 200 || shorts > 800 {
		t.Errorf("%d of 1000 were short", shorts)
	}
}

// TestP4_9InTime asks Short of plans with redemptions on any days.
func TestP4_9InTime(t *testing.T) {
	r := rand.New(rand.NewSource(409))
	for range 60 {
		s := largeShow(r)
		uses, without, cost := best(t, s)
		if _, e := pawn.Short(s, uses); e != api.ErrNone || withoutOf(uses) != without || costOf(s, uses) != cost {
			t.Fatalf("%v: Best = %v, %d, %d, Short %d", s, uses, without, cost, e)
		}
		for figure, u := range uses {
			if u.How == api.PaRedeem && u.Day > min(s.Gowns[u.Gown].Last, s.Figures[figure].Day) || u.How == api.PaBorrow && s.Figures[figure].Until > s.Gowns[u.Gown].Last {
				t.Fatalf("%v: by %v gown %d is not back in time", s, uses, u.Gown)
			}
		}
		for range 500 {
			other := randomPlan(r, s)
			better := cmp.Or(cmp.Compare(withoutOf(other), without), cmp.Compare(costOf(s, other), cost), compareUses(other, uses)) < 0
			if _, e := pawn.Short(s, other); better && e == api.ErrNone {
				t.Fatalf("%v: Best = %v, but %v is better", s, uses, other)
			}
		}
	}
}

func TestP4_10Without(t *testing.T) {
	r := rand.New(rand.NewSource(410))
	musts, mays := 0, 0
	for range 150 {
		s := randomShow(r)
		_, fewest, _ := best(t, s)
		must, may, e := pawn.Bare(s)
		some := map[int]bool{}
		for uses := range plansOf(s) {
			if withoutOf(uses) != fewest {
				continue
			}
			if _, e := pawn.Short(s, uses); e != api.ErrNone {
				continue
			}
			for figure, u := range uses {
				if u.Gown != api.PaNone && slices.Contains(must, figure) {
					t.Fatalf("%v: %v must go without, but by %v %d does not", s, must, uses, figure)
				}
				some[figure] = some[figure] || u.Gown == api.PaNone
			}
		}
		for figure := range s.Figures {
			if some[figure] != slices.Contains(may, figure) {
				t.Fatalf("%v: Bare = %v, %v, %d: by some plan %d is without: %t", s, must, may, e, figure, some[figure])
			}
		}
		musts += len(must)
		mays += len(may) - len(must)
	}
	if musts < 30 || mays < 10 {
		t.Errorf("only %d must, and %d may", musts, mays)
	}
}

func TestP4_11Need(t *testing.T) {
	r := rand.New(rand.NewSource(411))
	needs := 0
	for i := range 1500 {
		s := randomShow(r)
		if i%5 == 0 {
			s = largeShow(r)
		}
		_, fewest, _ := best(t, s)
		need, e := pawn.Need(s)
		if (e == api.ErrNone) != (fewest == 0) || e != api.OK && need != 0 {
			t.Fatalf("%v: Need = %d, %d, but %d are without", s, need, e, fewest)
		}
		with := func(more int) int {
			rich := s
			rich.Purse += more
			_, without, _ := best(t, rich)
			return without
		}
		switch e {
		case api.OK:
			needs++
			if with(need) != 0 || with(need-1) == 0 {
				t.Fatalf("%v: Need = %d, but %d are without then, and %d with a penny less", s, need, with(need), with(need-1))
			}
		case api.ErrDown:
			if with(api.MaxPaPence-s.Purse) == 0 {
				t.Fatalf("%v: Need: ErrDown, but there is enough", s)
			}
		}
	}
	if needs < 100 {
		t.Errorf("only %d need something", needs)
	}
}

func TestP4_12Later(t *testing.T) {
	r := rand.New(rand.NewSource(412))
	for range 300 {
		g := pawned("a", 0, r.Intn(api.MaxPaLoan+1), r.Intn(api.MaxPaRate+1), 0, r.Intn(api.MaxDay+1), api.MaxDay)
		s := api.PaShow{Gowns: gowns(g)}
		before, _ := pawn.Redeem(s, 0, 0)
		for day := 1; day <= api.MaxDay; day++ {
			cost, e := pawn.Redeem(s, 0, day)
			begins := (g.Ago+day)%api.PaMonth == 0
			if e != api.OK || !begins && cost != before || begins && cost != before+g.Rate {
				t.Fatalf("%v: on %d it costs %d, %d, and %d a day before", g, day, cost, e, before)
			}
			before = cost
		}
	}
}

// cheaper returns shows with a lesser rate, or fee.
func cheaper(s api.PaShow) []api.PaShow {
	var shows []api.PaShow
	for i := range s.Gowns {
		rate, fee := clone(s), clone(s)
		rate.Gowns[i].Rate /= 2
		fee.Gowns[i].Fee = max(0, fee.Gowns[i].Fee-1)
		shows = append(shows, rate, fee)
	}
	return shows
}

// richer returns shows with more money, or gowns, or later days.
func richer(r *rand.Rand, s api.PaShow) []api.PaShow {
	purse, more := clone(s), clone(s)
	purse.Purse += 1 + r.Intn(30)
	more.Incomes = append(more.Incomes, income(r.Intn(10), r.Intn(40)))
	shows := []api.PaShow{purse}
	if len(more.Incomes) <= api.MaxPaIncomes {
		shows = append(shows, more)
	}
	if len(s.Gowns) < api.MaxPaGowns {
		gown := clone(s)
		gown.Gowns = slices.Insert(gown.Gowns, r.Intn(len(s.Gowns)+1), randomGown(r, "more", 20))
		shows = append(shows, gown)
	}
	for i := range s.Gowns {
		if s.Gowns[i].Pawn {
			later := clone(s)
			later.Gowns[i].Last += r.Intn(20)
			shows = append(shows, later)
		}
	}
	return shows
}

func TestP4_13More(t *testing.T) {
	r := rand.New(rand.NewSource(413))
	fewer, less := 0, 0
	for range 700 {
		s := randomShow(r)
		_, without, cost := best(t, s)
		for _, other := range cheaper(s) {
			_, n, pence := best(t, other)
			if n > without || n == without && pence > cost {
				t.Fatalf("%v: %d for %d, but of %v %d for %d", s, without, cost, other, n, pence)
			}
			if n == without && pence < cost {
				less++
			}
		}
		for _, other := range richer(r, s) {
			_, n, _ := best(t, other)
			if n > without {
				t.Fatalf("%v: %d without, but of %v %d", s, without, other, n)
			}
			if n < without {
				fewer++
			}
		}
	}
	if fewer < 50 || less < 50 {
		t.Errorf("only %d times fewer, %d times less", fewer, less)
	}
}

func TestP4_14Paid(t *testing.T) {
	r := rand.New(rand.NewSource(414))
	for range 500 {
		s := largeShow(r)
		all := s.Purse
		for _, i := range s.Incomes {
			all += i.Pence
		}
		uses, _, cost := best(t, s)
		if left, e := pawn.Purse(s, uses, api.MaxDay); left != all-cost || e != api.OK {
			t.Fatalf("%v: %v costs %d, and %d, %d is left", s, uses, cost, left, e)
		}
		other := randomPlan(r, s)
		if left, e := pawn.Purse(s, other, api.MaxDay); left != all-costOf(s, other) || e != api.OK {
			t.Fatalf("%v: %v costs %d, and %d, %d is left", s, other, costOf(s, other), left, e)
		}
	}
}

func TestP4_15AnotherOrder(t *testing.T) {
	r := rand.New(rand.NewSource(415))
	for i := range 500 {
		s := randomShow(r)
		if i%2 == 0 {
			s = largeShow(r)
		}
		other := clone(s)
		slices.Reverse(other.Gowns)
		slices.Reverse(other.Figures)
		slices.Reverse(other.Incomes)
		_, without, cost := best(t, s)
		_, withoutOther, costOther := best(t, other)
		if without != withoutOther || cost != costOther {
			t.Fatalf("%v: %d without, for %d; of %v %d, for %d", s, without, cost, other, withoutOther, costOther)
		}
	}
}
