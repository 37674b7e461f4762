package mend

import (
	"iter"
	"slices"

	"ceroplast/api"
)

// way is steps, and the parts to which they lead.
type way struct {
	steps []api.MeStep
	has   parts
}

// then returns a way with one more step, which leads to these parts.
func (w way) then(step api.MeStep, has parts) way {
	// Other ways begin with the same steps.
	return way{append(slices.Clone(w.steps), step), has}
}

// search is what is looked for among the rows to which the steps of a row lead.
type search struct {
	view
	does func(w way) bool // whether the row to which a way leads does
}

// ways yields the first of the shortest ways to each row that does, no two of which look alike: shorter ways first, and those as long as each other in order.
func (s search) ways() iter.Seq[way] {
	return func(yield func(way) bool) {
		met := map[parts]bool{s.has: true}
		for next := []way{{has: s.has}}; len(next) > 0; next = next[1:] {
			w := next[0]
			if s.does(w) && !yield(w) {
				return
			}
		rows:
			for step, has := range s.steps(w.has) {
				// The way by which it was met has fewer steps, or comes before this one.
				if met[has] {
					continue rows
				}
				met[has] = true
				next = append(next, w.then(step, has))
			}
		}
	}
}

// fewest returns the first of the fewest steps that set all right, or ErrDown if none do.
func (v view) fewest() ([]api.MeStep, api.Errno) {
	allRight := search{v, func(w way) bool { return len(v.wrong(w.has)) == 0 }}
	for w := range allRight.ways() {
		return w.steps, api.OK
	}
	return nil, api.ErrDown
}
