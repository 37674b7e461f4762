package pawn

import (
	"cmp"
	"iter"
	"slices"

	"ceroplast/api"
	"ceroplast/pick"
)

// look is a show without an error that is looked at.
type look struct {
	api.PaShow
	ways [3]way
}

// plan is the use of each figure. Behind the figures no gown is used.
type plan [api.MaxPaFigures]api.PaUse

// payments are what is paid for the use of each figure.
type payments [api.MaxPaFigures]payment

// holding is which gown each figure has.
type holding [api.MaxPaFigures]int

// price is how many figures are without a gown, and what it costs.
type price struct{ without, cost int }

// open returns the look at a show, or the error of the show.
func open(s api.PaShow) (look, api.Errno) {
	if _, _, e := Check(s); e != api.OK {
		return look{}, e
	}
	return look{s, ways()}, api.OK
}

// openPlan returns the look at a show, and a plan of it, or the error of the show, or of the plan.
func openPlan(s api.PaShow, uses []api.PaUse) (look, plan, api.Errno) {
	l, e := open(s)
	if e != api.OK {
		return look{}, plan{}, e
	}
	if e := l.planError(uses); e != api.OK {
		return look{}, plan{}, e
	}
	return l, planOf(uses), api.OK
}

// planOf returns the plan of which these are the first uses.
func planOf(uses []api.PaUse) plan {
	var p plan
	for figure := range p {
		p[figure] = bare()
	}
	copy(p[:], uses)
	return p
}

// bare returns the use of a figure without a gown.
func bare() api.PaUse { return api.PaUse{Gown: api.PaNone} }

// uses returns the uses that a figure can have, in order; redeemed are gowns on days on which money comes only.
func (l look) uses(figure int) []api.PaUse {
	var list []api.PaUse
	for gown := range l.Gowns {
		for how, w := range l.ways {
			for day := range w.lastDay + 1 {
				u := api.PaUse{Gown: gown, How: how, Day: day}
				if l.moneyComes(day) && l.useError(figure, u) == api.OK {
					list = append(list, u)
				}
			}
		}
	}
	return append(list, bare())
}

// moneyComes reports whether there can be money on a day that was not there before.
//
// On no other day need a gown be redeemed: on the last day before it on which money came it is no dearer, can be paid as well, and the plan comes first.
func (l look) moneyComes(day int) bool {
	return day == 0 || slices.ContainsFunc(l.Incomes, func(i api.PaIncome) bool { return i.Day == day })
}

// plans yields the plans for which can holds, in order. It is asked of plans whose last figures have no gown yet, too: where it does not hold, it must not with more gowns, either.
func (l look) plans(can func(p plan) bool) iter.Seq[plan] {
	var uses [api.MaxPaFigures][]api.PaUse
	for figure := range l.Figures {
		uses[figure] = l.uses(figure)
	}
	return func(yield func(plan) bool) {
		var tell func(figure int, p plan) bool
		tell = func(figure int, p plan) bool {
			if figure == len(l.Figures) {
				return yield(p)
			}
		uses:
			for _, u := range uses[figure] {
				for _, other := range p[:figure] {
					if u != bare() && u.Gown == other.Gown {
						continue uses
					}
				}
				p[figure] = u
				if !can(p) {
					continue uses
				}
				if !tell(figure+1, p) {
					return false
				}
			}
			return true
		}
		tell(0, planOf(nil))
	}
}

// payments returns what is paid for the uses of a plan.
func (l look) payments(p plan) payments {
	var all payments
	for figure, u := range p {
		if u != bare() {
			all[figure] = l.ways[u.How].pay(l.Gowns[u.Gown], l.Figures[figure], u.Day)
		}
	}
	return all
}

// left returns the money that is left at the end of a day, below 0 if there is not enough.
func (l look) left(all payments, day int) int {
	pence := l.Purse
	for _, i := range l.Incomes {
		if i.Day <= day {
			pence += i.Pence
		}
	}
	for _, paid := range all {
		if paid.on <= day {
			pence -= paid.pence
		}
	}
	return pence
}

// shortage returns the fewest pence more in the purse with which a plan can be paid.
func (l look) shortage(p plan) int {
	short := 0
	all := l.payments(p)
	for _, paid := range all {
		short = max(short, -l.left(all, paid.on)) // least is left on a day on which something is paid
	}
	return short
}

// isPaid reports whether a plan can be paid.
func (l look) isPaid(p plan) bool { return l.shortage(p) == 0 }

func (l look) price(p plan) price {
	cost := 0
	for _, paid := range l.payments(p) {
		cost += paid.pence
	}
	return price{l.without(p.holding()), cost}
}

func (p plan) holding() holding {
	var h holding
	for figure, u := range p {
		h[figure] = u.Gown
	}
	return h
}

// without returns how many figures have no gown.
func (l look) without(h holding) int {
	without := 0
	for figure := range l.Figures {
		if h[figure] == api.PaNone {
			without++
		}
	}
	return without
}

// costs returns what each holding that can be paid costs at least.
func (l look) costs() map[holding]int {
	costs := map[holding]int{}
	for p := range l.plans(l.isPaid) {
		h, cost := p.holding(), l.price(p).cost
		if known, met := costs[h]; !met || cost < known {
			costs[h] = cost
		}
	}
	return costs
}

// least returns the price of the best plans.
func (l look) least(costs map[holding]int) price {
	prices := func(yield func(price) bool) {
		for h, cost := range costs {
			if !yield(price{l.without(h), cost}) {
				return
			}
		}
	}
	p, _ := pick.Least(prices, func(a, b price) int {
		return cmp.Or(cmp.Compare(a.without, b.without), cmp.Compare(a.cost, b.cost))
	})
	return p
}

// shortages yields the shortages, of at most so many pence, of the plans by which no figure is without a gown.
func (l look) shortages(most int) iter.Seq[int] {
	rich := l
	rich.Purse += most
	return func(yield func(int) bool) {
		for p := range rich.plans(rich.isPaid) {
			if l.without(p.holding()) == 0 && !yield(l.shortage(p)) {
				return
			}
		}
	}
}
