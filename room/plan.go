package room

import (
	"iter"

	"ceroplast/api"
	"ceroplast/sets"
)

// places is where each figure is, or api.RoNone. Behind the figures there is none.
type places [api.MaxRoFigures]int

// plan is a plan of a house without an error.
type plan struct {
	lit int
	at  places
}

// loads is how many pounds each joist carries.
type loads [api.MaxRoJoists]int

// rule is something that a plan has to keep to be allowed.
type rule struct {
	keeps func(p plan) bool
	lasts bool // a plan that breaks it does so with more figures, too
}

// openPlan returns the look at a house, and a plan of it, or the error of the house, or of the plan.
func openPlan(h api.RoHouse, told api.RoPlan) (look, plan, api.Errno) {
	l, e := open(h)
	if e != api.OK {
		return look{}, plan{}, e
	}
	if e := l.planError(told); e != api.OK {
		return look{}, plan{}, e
	}
	p := plan{told.Lit, nowhere()}
	copy(p.at[:], told.At)
	return l, p, api.OK
}

// openAllowed is openPlan, with ErrDown for a plan that is not allowed.
func openAllowed(h api.RoHouse, told api.RoPlan) (look, plan, api.Errno) {
	l, p, e := openPlan(h, told)
	if e != api.OK {
		return look{}, plan{}, e
	}
	if !keepsAll(l.rules(), p, true) {
		return look{}, plan{}, api.ErrDown
	}
	return l, p, api.OK
}

// nowhere is where the figures are if none is shown.
func nowhere() places {
	var at places
	for figure := range at {
		at[figure] = api.RoNone
	}
	return at
}

// tell returns a plan as it is told.
func (l look) tell(p plan) api.RoPlan {
	at := make([]int, len(l.Figures))
	copy(at, p.at[:])
	return api.RoPlan{Lit: p.lit, At: at}
}

// shown yields the figures that a plan shows, and their places.
func (p plan) shown() iter.Seq2[int, int] {
	return func(yield func(figure, place int) bool) {
		for figure, place := range p.at {
			if place != api.RoNone && !yield(figure, place) {
				return
			}
		}
	}
}

// rules returns what a plan has to keep to be allowed.
func (l look) rules() []rule {
	return []rule{
		{l.harmsNone, true},
		{l.isBorne, true},
		{l.keepsBill, false},
	}
}

// keepsAll reports whether a plan keeps the rules; as long as figures are still to be placed, those that last alone.
func keepsAll(rules []rule, p plan, allPlaced bool) bool {
	for _, r := range rules {
		if (r.lasts || allPlaced) && !r.keeps(p) {
			return false
		}
	}
	return true
}

// harmsNone reports whether each figure that is shown is safe.
func (l look) harmsNone(p plan) bool {
	fate := heated{l, p.lit}.fate
	for figure, place := range p.shown() {
		if fate(figure, place) != safe {
			return false
		}
	}
	return true
}

// isBorne reports whether no joist carries more than it holds.
func (l look) isBorne(p plan) bool {
	carried := l.loads(p)
	for joist, holds := range l.Holds {
		if carried[joist] > holds {
			return false
		}
	}
	return true
}

func (l look) loads(p plan) loads {
	var carried loads
	for figure, place := range p.shown() {
		for joist := range l.Holds {
			if sets.Has(l.Places[place].Joists, joist) {
				carried[joist] += l.Figures[figure].Weight
			}
		}
	}
	return carried
}

// keepsBill reports whether the dear room has what the bill promised.
func (l look) keepsBill(p plan) bool {
	dear := map[int]int{} // how many figures of a class are there
	for figure, place := range p.shown() {
		if l.Places[place].Dear {
			dear[l.Figures[figure].Class]++
		}
	}
	for _, class := range l.Bill {
		dear[class]--
		if dear[class] < 0 {
			return false
		}
	}
	return true
}

func (l look) worth(p plan) int {
	worth := 0
	for figure := range p.shown() {
		worth += l.Figures[figure].Worth
	}
	return worth
}

// without returns the look at the house without a set of the numbers of its bill.
func (l look) without(promises int) look {
	var bill []int
	for i, class := range l.Bill {
		if !sets.Has(promises, i) {
			bill = append(bill, class)
		}
	}
	l.Bill = bill
	return l
}

// choices returns where a figure can be, in order.
func (l look) choices() []int {
	var choices []int
	for place := range l.Places {
		choices = append(choices, place)
	}
	return append(choices, api.RoNone)
}

// plans yields the plans that are allowed, in order.
func (l look) plans() iter.Seq[plan] {
	choices, rules := l.choices(), l.rules()
	return func(yield func(plan) bool) {
		var extend func(figure int, p plan) bool
		extend = func(figure int, p plan) bool {
			if figure == len(l.Figures) {
				return !keepsAll(rules, p, true) || yield(p)
			}
		places:
			for _, place := range choices {
				for _, taken := range p.at[:figure] {
					if place != api.RoNone && place == taken {
						continue places
					}
				}
				p.at[figure] = place
				if keepsAll(rules, p, false) && !extend(figure+1, p) {
					return false
				}
			}
			return true
		}
		for lit := range 1 << l.Stoves {
			if !extend(0, plan{lit, nowhere()}) {
				return
			}
		}
	}
}

// isPossible reports whether some plan is allowed.
func (l look) isPossible() bool {
	for range l.plans() {
		return true
	}
	return false
}
