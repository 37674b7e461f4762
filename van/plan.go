package van

import (
	"iter"
	"slices"

	"ceroplast/api"
	"ceroplast/sets"
)

// look is a train without an error that is looked at.
type look struct{ api.VaTrain }

// plan is which van each crate is in, or api.VaNone. Behind the crates there is none.
type plan [api.MaxVaCrates]int

// open returns the look at a train, or the error of the train.
func open(t api.VaTrain) (look, api.Errno) {
	if _, _, e := Check(t); e != api.OK {
		return look{}, e
	}
	return look{t}, api.OK
}

// openPlan returns a train that is loaded by a plan, or the error of the train, or of the plan.
func openPlan(t api.VaTrain, told []int) (loaded, api.Errno) {
	l, e := open(t)
	if e != api.OK {
		return loaded{}, e
	}
	if e := l.planError(told); e != api.OK {
		return loaded{}, e
	}
	return loaded{l, planOf(told)}, api.OK
}

// planOf returns the plan of which these are the first vans.
func planOf(told []int) plan {
	var p plan
	for crate := range p {
		p[crate] = api.VaNone
	}
	copy(p[:], told)
	return p
}

// alone returns the plan by which all other crates stay behind.
func alone(crate, van int) plan {
	p := planOf(nil)
	p[crate] = van
	return p
}

// taken yields the crates that do not stay behind, and their vans.
func (p plan) taken() iter.Seq2[int, int] {
	return func(yield func(crate, van int) bool) {
		for crate, van := range p {
			if van != api.VaNone && !yield(crate, van) {
				return
			}
		}
	}
}

// allows reports whether crates can be in these vans. Where they cannot, they cannot with more crates, either.
func (l look) allows(p plan) bool { return l.hasRoom(p) && l.keepsApart(p) }

func (l look) hasRoom(p plan) bool {
	var sizes [api.MaxVaVans]int
	for crate, van := range p.taken() {
		sizes[van] += l.Crates[crate].Size
	}
	for van, v := range l.Vans {
		if sizes[van] > v.Room {
			return false
		}
	}
	return true
}

// keepsApart reports whether no two crates of a pair are in the same van.
func (l look) keepsApart(p plan) bool {
	for a, van := range p.taken() {
		for b, other := range p.taken() {
			if van == other && slices.Contains(l.Apart, api.VaPair{A: a, B: b}) {
				return false
			}
		}
	}
	return true
}

// without returns the look at the train without a set of its pairs.
func (l look) without(pairs int) look {
	var apart []api.VaPair
	for i, pair := range l.Apart {
		if !sets.Has(pairs, i) {
			apart = append(apart, pair)
		}
	}
	l.Apart = apart
	return l
}

// choices returns where a crate can be, in order.
func (l look) choices() []int {
	var choices []int
	for van := range l.Vans {
		choices = append(choices, van)
	}
	return append(choices, api.VaNone)
}

// plans yields all plans, in order.
func (l look) plans() iter.Seq[plan] {
	choices := l.choices()
	return func(yield func(plan) bool) {
		var extend func(crate int, p plan) bool
		extend = func(crate int, p plan) bool {
			if crate == len(l.Crates) {
				return yield(p)
			}
			for _, van := range choices {
				p[crate] = van
				if l.allows(p) && !extend(crate+1, p) {
					return false
				}
			}
			return true
		}
		extend(0, planOf(nil))
	}
}

// lateness returns, for each plan by which no crate stays behind, how many minutes the latest one can be late.
func (l look) lateness() map[plan]int {
	lateness := map[plan]int{}
	for p := range l.plans() {
		if !slices.Contains(p[:len(l.Crates)], api.VaNone) {
			lateness[p] = loaded{l, p}.latest()
		}
	}
	return lateness
}
