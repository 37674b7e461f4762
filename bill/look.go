package bill

import (
	"slices"

	"ceroplast/api"
	"ceroplast/sets"
)

// look is a show without an error that is looked at.
type look struct{ api.BiShow }

// open returns the look at a show, or the error of the show.
func open(s api.BiShow) (look, api.Errno) {
	if _, _, e := Check(s); e != api.OK {
		return look{}, e
	}
	return look{s}, api.OK
}

// only returns the look at the show if no other truths are left than these.
func (l look) only(truths int) look {
	var left []int
	for _, i := range sets.List(truths) {
		left = append(left, l.Truths[i])
	}
	l.Truths = left
	return l
}

func setOf(figures ...int) int {
	set := 0
	for _, figure := range figures {
		set |= 1 << figure
	}
	return set
}

// surely reports whether in each truth at least one of a set of figures arrives.
func (l look) surely(figures int) bool {
	return !slices.ContainsFunc(l.Truths, func(truth int) bool { return truth&figures == 0 })
}

// arrives reports whether a figure does in some truth.
func (l look) arrives(figure int) bool {
	return slices.ContainsFunc(l.Truths, func(truth int) bool { return sets.Has(truth, figure) })
}

// those returns the figures of which, as a set of one, this is so.
func (l look) those(isSo func(figures int) bool) []int {
	var those []int
	for figure := range len(l.Figures) {
		if isSo(setOf(figure)) {
			those = append(those, figure)
		}
	}
	return those
}
