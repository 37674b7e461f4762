package dress

import (
	"cmp"
	"iter"
	"slices"

	"ceroplast/api"
	"ceroplast/check"
	"ceroplast/pick"
	"ceroplast/sets"
)

// plan is the changes by which some persons have a figure, in the order of the persons.
type plan []change

// weights are ounces of hair of each colour. Of colours that are not in the room they are 0.
type weights [api.MaxDrColours]int

// order is by what plans are compared: by the first number, and by the next one if that is the same.
type order struct{ first, next func(p plan) int }

func (o order) compare(a, b plan) int {
	return cmp.Or(cmp.Compare(o.first(a), o.first(b)), cmp.Compare(o.next(a), o.next(b)))
}

// openPlan returns the view of a room, and a plan for all its persons, or the error of the room, or of the plan.
func openPlan(r api.DrRoom, figures []int) (view, plan, api.Errno) {
	v, e := open(r)
	switch {
	case e != api.OK:
		return view{}, nil, e
	case len(figures) != len(v.Persons):
		return view{}, nil, api.ErrLong
	case !check.IsIndex(len(v.Figures), figures...):
		return view{}, nil, api.ErrNone
	}
	var p plan
	for person, figure := range figures {
		if slices.Contains(figures[:person], figure) {
			return view{}, nil, api.ErrTwice
		}
		p = append(p, change{figure, person})
	}
	return v, p, api.OK
}

// figures returns the figure of each person.
func (p plan) figures() []int {
	var figures []int
	for _, c := range p {
		figures = append(figures, c.figure)
	}
	return figures
}

// everybody returns the set of all persons.
func (v view) everybody() int { return 1<<len(v.Persons) - 1 }

// plans yields the plans for a set of persons, in order.
func (v view) plans(persons int) iter.Seq[plan] {
	list := sets.List(persons)
	return func(yield func(plan) bool) {
		p := make(plan, len(list))
		var choose func(at int) bool
		choose = func(at int) bool {
			if at == len(list) {
				// A plan that is kept must not become the next one.
				return yield(slices.Clone(p))
			}
		figures:
			for figure := range v.Figures {
				for _, before := range p[:at] {
					if before.figure == figure {
						continue figures
					}
				}
				p[at] = change{figure, list[at]}
				if !choose(at + 1) {
					return false
				}
			}
			return true
		}
		choose(0)
	}
}

// left returns what is left of each colour by a plan.
func (v view) left(p plan) weights {
	var left weights
	copy(left[:], v.Ounces)
	for _, c := range p {
		if v.changesHair(c) {
			figure, person := v.Figures[c.figure], v.Persons[c.person]
			left[figure.Looks[hair]] += figure.Hair
			left[person.Looks[hair]] -= person.Hair
		}
	}
	return left
}

// lack returns how much must be bought of each colour, so that nothing that is left is below 0.
func (left weights) lack() weights {
	var lack weights
	for colour, n := range left {
		lack[colour] = max(0, -n)
	}
	return lack
}

// list returns the ounces of the colours that are in the room.
func (v view) list(all weights) []int { return slices.Clone(all[:len(v.Ounces)]) }

// lacks returns how many ounces a plan lacks, of all colours together.
func (v view) lacks(p plan) int {
	many := 0
	for _, n := range v.left(p).lack() {
		many += n
	}
	return many
}

// allows reports whether a plan is allowed.
func (v view) allows(p plan) bool { return v.left(p).lack() == weights{} }

// allowsSome reports whether some plan for a set of persons is allowed.
func (v view) allowsSome(persons int) bool {
	for p := range v.plans(persons) {
		if v.allows(p) {
			return true
		}
	}
	return false
}

// nearest returns the first of the plans for a set of persons that lack the fewest ounces, and of these cost least, or ErrDown if there is no plan.
func (v view) nearest(persons int) (plan, api.Errno) {
	p, found := pick.Least(v.plans(persons), order{v.lacks, v.costs}.compare)
	if !found {
		return nil, api.ErrDown
	}
	return p, api.OK
}

// best returns the first of the plans for a set of persons that are allowed and cost least, or ErrDown if none is allowed.
func (v view) best(persons int) (plan, api.Errno) {
	// A plan that is allowed lacks nothing, so that the nearest one is such a plan if there are any.
	p, e := v.nearest(persons)
	if e != api.OK || !v.allows(p) {
		return nil, api.ErrDown
	}
	return p, api.OK
}
