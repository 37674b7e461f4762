package mend

import (
	"cmp"
	"iter"
	"slices"

	"ceroplast/api"
)

// move is a step of a row, and to which parts it leads, or the error if it cannot be done.
type move struct {
	step  api.MeStep
	leads func(has parts) (parts, api.Errno)
}

// pair is two figures that stand side by side.
type pair api.MeStep

// exchanged returns the parts once the figures of the pair have exchanged theirs.
func (p pair) exchanged(has parts) (parts, api.Errno) {
	has[p.A], has[p.B] = has[p.B], has[p.A]
	return has, api.OK
}

// bench is the figure where the bench is.
type bench int

// mended returns the parts once that of the figure is mended, or ErrZero if it is not broken.
func (b bench) mended(has parts) (parts, api.Errno) {
	if !has[b].broken {
		return parts{}, api.ErrZero
	}
	has[b].broken = false
	return has, api.OK
}

// movesOf returns the moves of a row, in the order of steps.
func movesOf(r api.MeRow) []move {
	var moves []move
	for _, step := range r.Beside {
		moves = append(moves, move{step, pair(step).exchanged})
	}
	if r.Bench != api.MeNone {
		moves = append(moves, move{api.MeStep{A: r.Bench, B: r.Bench}, bench(r.Bench).mended})
	}
	slices.SortFunc(moves, func(a, b move) int {
		return cmp.Or(cmp.Compare(a.step.A, b.step.A), cmp.Compare(a.step.B, b.step.B))
	})
	return moves
}

// after returns the parts once a step is done, or ErrNone if it is no step of the row, or ErrZero if nothing is broken there.
func (v view) after(has parts, step api.MeStep) (parts, api.Errno) {
	i := slices.IndexFunc(v.moves, func(m move) bool { return m.step == step })
	if i < 0 {
		return parts{}, api.ErrNone
	}
	return v.moves[i].leads(has)
}

// steps yields the steps that change something, in order, and the parts to which they lead.
func (v view) steps(has parts) iter.Seq2[api.MeStep, parts] {
	return func(yield func(api.MeStep, parts) bool) {
		for _, m := range v.moves {
			then, e := m.leads(has)
			if e == api.OK && then != has && !yield(m.step, then) {
				return
			}
		}
	}
}
