package mend

import (
	"math/bits"
	"slices"

	"ceroplast/api"
)

// loopsError returns why a row has no loops.
func (v view) loopsError() api.Errno {
	has, wants := 0, 0
	for _, f := range v.Figures {
		if f.Broken || f.Wants == api.MeAny {
			return api.ErrZero
		}
		has |= 1 << f.Has
		wants |= 1 << f.Wants
	}
	switch {
	case bits.OnesCount(uint(has)) < len(v.Figures):
		return api.ErrTwice
	case wants != has:
		// Parts are of as many kinds as there are figures: if two want the same, another one is not wanted.
		return api.ErrDown
	}
	return api.OK
}

// loops returns the loops of two figures or more of a row that has loops, in order.
func (v view) loops() [][]int {
	var loops [][]int
	var followed [api.MaxMeFigures]bool
	var follow func(figure int) []int
	follow = func(figure int) []int {
		if followed[figure] {
			return nil
		}
		followed[figure] = true
		next := slices.IndexFunc(v.Figures, func(f api.MeFigure) bool { return f.Has == v.Figures[figure].Wants })
		return append([]int{figure}, follow(next)...)
	}
	for figure := range len(v.Figures) {
		if loop := follow(figure); len(loop) > 1 {
			loops = append(loops, loop)
		}
	}
	return loops
}
