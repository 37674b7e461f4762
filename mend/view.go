package mend

import (
	"slices"

	"ceroplast/api"
)

// part is the part of a figure.
type part struct {
	kind   int
	broken bool
}

// parts are the parts of all figures. Behind the figures all are the same.
type parts [api.MaxMeFigures]part

// view is a row without an error that is looked at: what its figures have, and the moves that there are, in order.
type view struct {
	api.MeRow
	has   parts
	moves []move
}

// open returns the view of a row, or the error of the row.
func open(r api.MeRow) (view, api.Errno) {
	if _, _, e := Check(r); e != api.OK {
		return view{}, e
	}
	return viewOf(r), api.OK
}

func viewOf(r api.MeRow) view {
	v := view{MeRow: r, moves: movesOf(r)}
	for i, f := range r.Figures {
		v.has[i] = part{f.Has, f.Broken}
	}
	return v
}

// row returns the row if its figures have these parts.
func (v view) row(has parts) api.MeRow {
	r := v.MeRow
	r.Figures, r.Beside = slices.Clone(r.Figures), slices.Clone(r.Beside)
	for i := range len(r.Figures) {
		r.Figures[i].Has, r.Figures[i].Broken = has[i].kind, has[i].broken
	}
	return r
}

// beside returns the view of the row if two more figures stand side by side, or the same two once more.
func (v view) beside(a, b int) view {
	r := v.MeRow
	r.Beside = append(slices.Clone(r.Beside), api.MeStep{A: a, B: b})
	return viewOf(r)
}

// wrong returns the figures that are wrong if they have these parts.
func (v view) wrong(has parts) []int {
	var wrong []int
	for i := range len(v.Figures) {
		if wants := v.Figures[i].Wants; wants != api.MeAny && has[i] != (part{kind: wants}) {
			wrong = append(wrong, i)
		}
	}
	return wrong
}
